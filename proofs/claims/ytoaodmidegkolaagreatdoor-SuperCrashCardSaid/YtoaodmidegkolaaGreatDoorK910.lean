/- Texts joined (shake.py). -/
import Derived.OwnWalk
import Derived.Test.YtoaodmidegkolaaGreatDoorK91
import Derived.Test.YtoaodmidegkolaaGreatDoorK98
namespace Go.Proofs.YtoaodmidegkolaaGreatDoor
set_option maxRecDepth 20000
open Go.RowKit Go.Px Go.Maps
set_option linter.unusedVariables false
section
variable {w w' : World} {Q Q' X : Nat → Prop} {t f : Nat} {cs cs' : List Value} {d d' : Dk}
theorem tSecs : SlT Tryz.prog 89 93 4 64 := slT_mk Tryz.underlying89 (z := .agg #[.slice none 0 0, .bool false, .slice none 0 0, .bool false]) (by kernel_rfl) rfl (by decide)
/-- The cells of new sectors, their bytes at some blocks. -/
def newCells (S : Nat) (os : List Nat) : List Value := os.flatMap fun o => [.slice (some ⟨o, 0, none⟩) S S, .bool false, .slice none 0 0, .bool false]
theorem newCells_len (S : Nat) (os : List Nat) : (newCells S os).length = os.length * 4 := by
  induction os with
  | nil => rfl
  | cons o os ih => simp only [newCells, List.flatMap_cons, List.length_append] at ih ⊢; simp [ih]; omega
theorem newCells_one (S : Nat) : ∀ (os : List Nat), ∀ u ∈ newCells S os, u.oneCell' = true := fun os u hu => by
  obtain ⟨o, _, ho⟩ := List.mem_flatMap.1 hu
  simp at ho
  rcases ho with rfl | rfl | rfl | rfl <;> rfl
theorem newCells_get (S : Nat) : ∀ (os : List Nat) (k : Nat) (o : Nat), os[k]? = some o → (newCells S os)[k * 4]? = some (.slice (some ⟨o, 0, none⟩) S S) ∧ (newCells S os)[k * 4 + 1]? = some (.bool false) ∧ (newCells S os)[k * 4 + 2]? = some (.slice none 0 0) ∧ (newCells S os)[k * 4 + 3]? = some (.bool false)
  | [], k, o, h => by simp at h
  | x :: os, 0, o, h => by simp at h; subst h; exact ⟨rfl, rfl, rfl, rfl⟩
  | x :: os, k + 1, o, h => by
    have h' : os[k]? = some o := by simpa using h
    obtain ⟨i1, i2, i3, i4⟩ := newCells_get S os k o h'
    have e : newCells S (x :: os) = [.slice (some ⟨x, 0, none⟩) S S, .bool false, .slice none 0 0, .bool false] ++ newCells S os := rfl
    rw [e]
    refine ⟨?_, ?_, ?_, ?_⟩
    all_goals rw [List.getElem?_append_right (by simp; omega)]
    · rw [show (k + 1) * 4 - [Value.slice (some ⟨x, 0, none⟩) S S, .bool false, .slice none 0 0, .bool false].length = k * 4 by simp; omega]; exact i1
    · rw [show (k + 1) * 4 + 1 - [Value.slice (some ⟨x, 0, none⟩) S S, .bool false, .slice none 0 0, .bool false].length = k * 4 + 1 by simp; omega]; exact i2
    · rw [show (k + 1) * 4 + 2 - [Value.slice (some ⟨x, 0, none⟩) S S, .bool false, .slice none 0 0, .bool false].length = k * 4 + 2 by simp; omega]; exact i3
    · rw [show (k + 1) * 4 + 3 - [Value.slice (some ⟨x, 0, none⟩) S S, .bool false, .slice none 0 0, .bool false].length = k * 4 + 3 by simp; omega]; exact i4
/-- A new disk under way. -/
structure NewI (w : World) (S : Nat) (k : Nat) (W : World) (v : Value) (os : List Nat) : Prop where
  blk : Blk W w.heap.size [.int .i64 (S : Int), v, .bool false, .int .i64 0] 91
  own : W.ownsRow (w.heap.size + 1) 93 4 v k (newCells S os)
  len : os.length = k
  ok : ∀ o ∈ os, w.heap.size + 1 ≤ o ∧ o < W.heap.size ∧ some o ≠ v.ownBlock ∧ Rd W (some ⟨o, 0, none⟩) (bys (List.replicate S 0))
  bel : Below w.heap.size w W
  siz : w.heap.size + 1 ≤ W.heap.size
theorem NewI.done {n s : Nat} {v : Value} {os : List Nat} (h : NewI w s n w' v os) (h1 : 1 ≤ n) (h2 : n ≤ 65536) (h3 : 1 ≤ s) (h4 : s ≤ 8192) : ∃ f cs, RDIs w' (fun b => w.heap.size + 1 ≤ b ∧ b ≠ f) w.heap.size f cs (Dk.new n s) ∧ w.heap.size + 1 ≤ f ∧ Below w.heap.size w w' := by
  obtain ⟨hb, ho, hl, hk, hbel, hsz⟩ := h
  obtain ⟨hx, hcase⟩ := ho
  rcases hcase with ⟨_, hn⟩ | ⟨g, cap, cur, rfl, hbg, hg, hnc, hcm, hcs, htk⟩
  · omega
  · have hlen : (Dk.new n s).fast.length = n := by simp [Dk.new]
    refine ⟨g, cur.toList, ⟨⟨cap, ?_, by rw [hlen]; exact hnc, hcm⟩, ?_, ?_, ?_, Dk.new_ok h1 h2 h3 h4, by omega, fun b hb => ⟨by omega, hb.2⟩⟩, hbg, hbel⟩
    · rw [hlen]; exact hb
    · simpa [Blk] using hg
    · rw [hlen]; simp only [Array.length_toList, hcs]; exact Nat.mul_le_mul_right _ hnc
    · intro i hi
      have hi2 := hi
      rw [hlen] at hi2
      have hi' : i < os.length := by omega
      obtain ⟨c1, c2, c3, c4⟩ := newCells_get s os i os[i] (List.getElem?_eq_getElem hi')
      have hcell : ∀ (j : Nat) (u : Value), (newCells s os)[j]? = some u → cur.toList[j]? = some u := fun j u hu => by
        rw [← htk, List.getElem?_take] at hu
        split at hu
        · exact hu
        · cases hu
      obtain ⟨k1, k2, k3, k4⟩ := hk os[i] (List.getElem_mem hi')
      have e : (Dk.new n s).fast[i] = List.replicate s 0 := by simp [Dk.new]
      rw [e]
      exact ⟨_, _, _, none, 0, 0, hcell _ _ c1, hcell _ _ c2, hcell _ _ c3, hcell _ _ c4, by simp, Nat.le_refl _, by omega, k4, fun a ha => by injection ha with ha; subst ha; exact ⟨k1, fun e => k3 (by show some os[i] = some g; exact congrArg some e)⟩, Nat.le_refl _, by omega, fun b hb => by cases hb⟩
set_option maxHeartbeats 3200000 in
theorem rnew08_ok (w : World) (n s : Nat) (h1 : 1 ≤ n) (h2 : n ≤ 65536) (h3 : 1 ≤ s) (h4 : s ≤ 8192) :
    Calls Tryz.prog 27 #[.int .i64 (n : Int), .int .i64 (s : Int)] w fun e w' => ∃ f cs, e = .returned (.tuple #[.pointer (some ⟨w.heap.size, 0, none⟩), .int .i64 0]) ∧ RDIs w' (fun b => w.heap.size + 1 ≤ b ∧ b ≠ f) w.heap.size f cs (Dk.new n s) ∧ w.heap.size + 1 ≤ f ∧ Below w.heap.size w w' := by
  have q1 : decide ((n : Int) < 1) = false := decide_eq_false (by omega)
  have q2 : decide ((65536 : Int) < (n : Int)) = false := decide_eq_false (by omega)
  have q3 : decide ((s : Int) < 1) = false := decide_eq_false (by omega)
  have q4 : decide ((8192 : Int) < (s : Int)) = false := decide_eq_false (by omega)
  go_enter Tryz.func27, Tryz.ntmps27
  go_wp2
  go_loopw [7] (fun u W => ∃ (k : Nat) (v : Value) (os : List Nat), u = .int .i64 (k : Int) ∧ k ≤ n ∧ NewI w s k W v os) (fun u _ => n - (RowKit.intOf u).toNat)
  case atStart =>
    exact ⟨0, .slice none 0 0, [], rfl, by omega, ⟨Blk.new w _ _, World.ownsRow_nil _ _ _ _, rfl, fun o ho => (by cases ho), (Below.refl _ _).alloc (Nat.le_refl _) _, by simp⟩⟩
  case round =>
    obtain ⟨k, v, os, rfl, hkn, hI⟩ := hrel
    obtain ⟨Av, cv, rfl, hvl, hcv, hcmv, hrv, hav⟩ := own_out hI.own
    by_cases hlt : k < n
    · have y1 := hI.blk.cell (j := 1) rfl
      have hz := hI.siz
      go_wp2_with fail
      obtain ⟨wd, hwd⟩ : ∃ y, wr.drew = y := ⟨_, rfl⟩
      have hdd : Below wr.heap.size wr wd := by rw [← hwd]; exact (Below.refl _ _).drew
      have hzd : wd.heap.size = wr.heap.size := by rw [← hwd]; rfl
      have hm1 := fun W => run_mkB (P := Tryz.prog) (t := 51) (e := 5) (z := .int .u8 0) (bytes := 1) Tryz.underlying51 (by kernel_rfl) rfl (N := s) (by omega) (by omega) W
      obtain ⟨wa, hwa⟩ : ∃ y, wd.alloc (.cells (Array.replicate s (.int .u8 0)) 5) = y := ⟨_, rfl⟩
      have hza : wa.heap.size = wr.heap.size + 1 := by rw [← hwa, World.size_alloc, hzd]
      have hba : Below wr.heap.size wr wa := by rw [← hwa]; exact hdd.alloc (by omega) _
      have hBa : Blk wa wr.heap.size (bys (List.replicate s 0)) 5 := by
        rw [← hwa, ← hzd]; exact zeros_blk wd s
      have hcl : ∀ Z, Below wr.heap.size wr Z → Z.cell? ⟨w.heap.size, 1, none⟩ = some (.slice Av k cv) := fun Z hZ => below_cell08 hZ y1
      have HSa := hcl _ hba
      obtain ⟨wb, hwb⟩ : ∃ y, wa.alloc (.cells #[.slice (some ⟨wr.heap.size, 0, none⟩) s s, .bool false, .slice none 0 0, .bool false] 93) = y := ⟨_, rfl⟩
      have hbb : Below wr.heap.size wr wb := by rw [← hwb]; exact hba.alloc (by omega) _
      have hbab : Below wa.heap.size wa wb := by rw [← hwb]; exact (Below.refl _ _).alloc (Nat.le_refl _) _
      have hzb : wb.heap.size = wr.heap.size + 2 := by rw [← hwb, World.size_alloc, hza]
      have hRb : Rd wb (some ⟨wr.heap.size + 1, 0, none⟩) (newCells s [wr.heap.size]) := by
        rw [← hwb, ← hza]; exact Rd.newN wa [.slice (some ⟨wr.heap.size, 0, none⟩) s s, .bool false, .slice none 0 0, .bool false] _ (0, 0)
      have HSb := hcl _ hbb
      have HOW := hide (own_below hI.own hbb)
      have HRB := hide hRb
      go_wp2_with fail
      refine wp_region_any (by kernel_rfl) ?_
      show wpAny _ _ _ _ _ _ _ wr.drew
      refine wpAny_take (fuel := 12) (i := 0) (v := .pointer (some ⟨w.heap.size, 0, none⟩)) rfl (by kernel_rfl) (by kernel_rfl) (by kernel_rfl) (fun _ _ _ h => h) (Or.inl ⟨by rfl, fun Z => ?_⟩) ?_
      · go_simp
      refine wpAny_take (fuel := 11) (i := 1) (v := .pointer (some ⟨w.heap.size, 0, none⟩)) rfl (by kernel_rfl) (by kernel_rfl) (by kernel_rfl) (fun _ _ _ h => h) (Or.inl ⟨by rfl, fun Z => ?_⟩) ?_
      · go_simp
      refine wpAny_take (fuel := 10) (i := 2) (v := .pointer (some ⟨w.heap.size, 0, none⟩)) rfl (by kernel_rfl) (by kernel_rfl) (by kernel_rfl) (fun _ _ _ h => h) (Or.inl ⟨by rfl, fun Z => ?_⟩) ?_
      · go_simp
      refine wpAny_take (fuel := 9) (i := 3) (v := .pointer (some ⟨w.heap.size, 1, none⟩)) rfl (by kernel_rfl) (by kernel_rfl) (by kernel_rfl) (fun _ _ _ h => h) (Or.inl ⟨by rfl, fun Z => ?_⟩) ?_
      · go_simp
      refine wpAny_take (fuel := 8) (i := 5) (v := .int .i64 (s : Int)) rfl (by kernel_rfl) (by kernel_rfl) (by kernel_rfl) (fun _ _ _ h => h) (Or.inl ⟨by rfl, fun Z => ?_⟩) ?_
      · go_simp
      refine any_two (fuel := 7) (i := 4) (j := 6) (by kernel_rfl) rfl rfl rfl rfl (fun Kk hK => ?_) (fun Kk hK => ?_)
      · have hcw := (show wr.drew.cell? ⟨w.heap.size, 1, none⟩ = some (.slice Av k cv) from y1)
        go_simp
        refine hK _ _ ?_
        clear hK Kk hcw
        refine any_one (fuel := 6) (i := 6) (by kernel_rfl) rfl rfl (fun Kk hK => ?_)
        go_simp
        try rw [hwa]
        refine hK _ _ ?_
        clear hK Kk
        refine any_one (fuel := 5) (i := 7) (by kernel_rfl) rfl rfl (fun Kk hK => ?_)
        go_simp
        refine hK _ _ ?_
        clear hK Kk
        refine any_one (fuel := 4) (i := 8) (by kernel_rfl) rfl rfl (fun Kk hK => ?_)
        go_simp
        try rw [hwb]
        refine hK _ _ ?_
        clear hK Kk
        refine any_one (fuel := 3) (i := 9) (by kernel_rfl) rfl rfl (fun Kk hK => ?_)
        refine oper_own rfl tSecs (base := w.heap.size + 1) (e := 93) (by rfl) HOW.out (A := some ⟨wr.heap.size + 1, 0, none⟩) (m := 1) (c := 1) (by rfl) (by rw [newCells_len]; rfl) HRB.out (newCells_one s _) (by omega) (by omega) (by omega) ?_
        intro v2 w5 hO2 hg2 hv2
        obtain ⟨A4, c4, rfl, _, hc4, hcm4, hr4, ha4⟩ := own_out hO2
        have hlo : ∀ g, (Value.slice Av k cv).ownBlock = some g → w.heap.size + 1 ≤ g ∧ g < wr.heap.size := fun g hg => by
          cases Av with
          | none => simp [Value.ownBlock] at hg
          | some a => simp [Value.ownBlock] at hg; have := hav a rfl; omega
        have hb5 : Below (w.heap.size + 1) wb w5 := (Below.refl _ _).grown hg2 (by omega) (fun g hg => (hlo g hg).1)
        have hF5 : Fr (fun x => some x = (Value.slice Av k cv).ownBlock) wb w5 := Fr.of_grown hg2 (fun g hg => hg.symm)
        have HT5 : Blk w5 w.heap.size [.int .i64 (s : Int), .slice Av k cv, .bool false, .int .i64 0] 91 := (hI.blk.below hbb).fr hF5 (fun e => by have := hlo _ e.symm; omega)
        have HS5 : w5.cell? ⟨w.heap.size, 1, none⟩ = some (.slice Av k cv) := HT5.cell (j := 1) rfl
        have jt := HT5.frozen 1
        have hsz5 := hg2.size
        have hnew4 : ∀ g, (Value.slice A4 (k + 1) c4).ownBlock = some g → (∃ g0, (Value.slice Av k cv).ownBlock = some g0 ∧ g = g0) ∨ wr.heap.size + 2 ≤ g := fun g hg => by
          rcases hv2 with h | h
          · exact .inl ⟨g, by rw [← h]; exact hg, rfl⟩
          · rw [h] at hg; injection hg with hg; exact .inr (by omega)
        obtain ⟨w6, hw6⟩ : ∃ y, w5.setCell ⟨w.heap.size, 1, none⟩ (.slice A4 (k + 1) c4) = y := ⟨_, rfl⟩
        have hF6 : Fr (fun x => x = w.heap.size) w5 w6 := by rw [← hw6]; exact Fr.set (X := fun x => x = w.heap.size) w5 ⟨w.heap.size, 1, none⟩ _ rfl
        have hz6 : w6.heap.size = w5.heap.size := by rw [← hw6]; simp
        have HT6 : Blk w6 w.heap.size [.int .i64 (s : Int), .slice A4 (k + 1) c4, .bool false, .int .i64 0] 91 := by rw [← hw6]; exact HT5.set 1 _
        have hO6 : w6.ownsRow (w.heap.size + 1) 93 4 (.slice A4 (k + 1) c4) (k + 1) (newCells s (os ++ [wr.heap.size])) := by
          have e : newCells s os ++ newCells s [wr.heap.size] = newCells s (os ++ [wr.heap.size]) := by simp [newCells]
          rw [e] at hO2
          refine ⟨hO2.1, ?_⟩
          rcases hO2.2 with h | ⟨g, cap, cur, hv, hbg, hg', rest⟩
          · exact .inl h
          · exact .inr ⟨g, cap, cur, hv, hbg, (hF6.blk g (Array.getElem?_eq_some_iff.1 hg').1 (by omega)).trans hg', rest⟩
        have hok6 : ∀ o ∈ os ++ [wr.heap.size], w.heap.size + 1 ≤ o ∧ o < w6.heap.size ∧ some o ≠ (Value.slice A4 (k + 1) c4).ownBlock ∧ Rd w6 (some ⟨o, 0, none⟩) (bys (List.replicate s 0)) := fun o ho => by
          have hcase : w.heap.size + 1 ≤ o ∧ o ≤ wr.heap.size ∧ (∀ g, (Value.slice Av k cv).ownBlock = some g → o ≠ g) ∧ Rd wb (some ⟨o, 0, none⟩) (bys (List.replicate s 0)) := by
            rcases List.mem_append.1 ho with ho | ho
            · obtain ⟨g1, g2, g3, g4⟩ := hI.ok o ho
              exact ⟨g1, by omega, fun g hg e => g3 (by rw [e]; exact hg.symm), g4.below hbb⟩
            · rw [List.mem_singleton] at ho
              subst ho
              refine ⟨by omega, Nat.le_refl _, fun g hg e => by have := hlo g hg; omega, Rd.of_some fun j u hu => ?_⟩
              have := (hBa.below hbab).cell hu
              rwa [show (⟨wr.heap.size, 0, none⟩ : Addr).add j = ⟨wr.heap.size, j, none⟩ by unfold Addr.add; split <;> simp_all]
          obtain ⟨g1, g2, g3, g4⟩ := hcase
          refine ⟨g1, by omega, fun e => ?_, (g4.fr hF5 (fun _ a ha e => by injection ha with ha; subst ha; exact g3 _ e.symm rfl)).fr hF6 (fun _ a ha e => by injection ha with ha; subst ha; have e' : o = w.heap.size := e; omega)⟩
          rcases hnew4 o e.symm with ⟨g0, h0, h1⟩ | h0
          · exact g3 g0 h0 h1
          · omega
        have hbel : Below w.heap.size w w6 := hF6.below ((((hI.bel.trans (hbb.mono (by omega)))).trans (hb5.mono (by omega)))) (by omega) (fun x hx => by omega)
        have HN := hide (show NewI w s (k + 1) w6 (.slice A4 (k + 1) c4) (os ++ [wr.heap.size]) from ⟨HT6, hO6, by rw [List.length_append, hI.len]; rfl, hok6, hbel, by omega⟩)
        clear hO2 hg2 hv2 hr4 ha4 hF5 hF6 HT6 hO6 hok6 hbel hb5 hnew4
        refine hK _ _ ?_
        clear hK Kk
        refine any_one (fuel := 2) (i := 10) (by kernel_rfl) rfl rfl (fun Kk hK => ?_)
        go_simp
        refine hK _ _ ?_
        clear hK Kk
        refine any_one (fuel := 1) (i := 11) (by kernel_rfl) rfl rfl (fun Kk hK => ?_)
        go_simp
        refine hK _ _ ?_
        clear hK Kk
        refine any_one (fuel := 0) (i := 12) (by kernel_rfl) rfl rfl (fun Kk hK => ?_)
        go_simp
        try rw [hw6]
        refine hK _ _ ?_
        clear hK Kk
        refine ⟨by kernel_rfl, ?_⟩
        go_wp2
        go_roundw
        case rel => exact ⟨k + 1, _, _, by go_num, by omega, HN.out⟩
        case measure => simp [RowKit.intOf]; omega
      · go_simp
        try rw [hwa]
        refine hK _ _ ?_
        clear hK Kk
        refine any_two (fuel := 6) (i := 4) (j := 7) (by kernel_rfl) rfl rfl rfl rfl (fun Kk hK => ?_) (fun Kk hK => ?_)
        · have hcw := hcl _ hba
          go_simp
          refine hK _ _ ?_
          clear hK Kk hcw
          refine any_one (fuel := 5) (i := 7) (by kernel_rfl) rfl rfl (fun Kk hK => ?_)
          go_simp
          refine hK _ _ ?_
          clear hK Kk
          refine any_one (fuel := 4) (i := 8) (by kernel_rfl) rfl rfl (fun Kk hK => ?_)
          go_simp
          try rw [hwb]
          refine hK _ _ ?_
          clear hK Kk
          refine any_one (fuel := 3) (i := 9) (by kernel_rfl) rfl rfl (fun Kk hK => ?_)
          refine oper_own rfl tSecs (base := w.heap.size + 1) (e := 93) (by rfl) HOW.out (A := some ⟨wr.heap.size + 1, 0, none⟩) (m := 1) (c := 1) (by rfl) (by rw [newCells_len]; rfl) HRB.out (newCells_one s _) (by omega) (by omega) (by omega) ?_
          intro v2 w5 hO2 hg2 hv2
          obtain ⟨A4, c4, rfl, _, hc4, hcm4, hr4, ha4⟩ := own_out hO2
          have hlo : ∀ g, (Value.slice Av k cv).ownBlock = some g → w.heap.size + 1 ≤ g ∧ g < wr.heap.size := fun g hg => by
            cases Av with
            | none => simp [Value.ownBlock] at hg
            | some a => simp [Value.ownBlock] at hg; have := hav a rfl; omega
          have hb5 : Below (w.heap.size + 1) wb w5 := (Below.refl _ _).grown hg2 (by omega) (fun g hg => (hlo g hg).1)
          have hF5 : Fr (fun x => some x = (Value.slice Av k cv).ownBlock) wb w5 := Fr.of_grown hg2 (fun g hg => hg.symm)
          have HT5 : Blk w5 w.heap.size [.int .i64 (s : Int), .slice Av k cv, .bool false, .int .i64 0] 91 := (hI.blk.below hbb).fr hF5 (fun e => by have := hlo _ e.symm; omega)
          have HS5 : w5.cell? ⟨w.heap.size, 1, none⟩ = some (.slice Av k cv) := HT5.cell (j := 1) rfl
          have jt := HT5.frozen 1
          have hsz5 := hg2.size
          have hnew4 : ∀ g, (Value.slice A4 (k + 1) c4).ownBlock = some g → (∃ g0, (Value.slice Av k cv).ownBlock = some g0 ∧ g = g0) ∨ wr.heap.size + 2 ≤ g := fun g hg => by
            rcases hv2 with h | h
            · exact .inl ⟨g, by rw [← h]; exact hg, rfl⟩
            · rw [h] at hg; injection hg with hg; exact .inr (by omega)
          obtain ⟨w6, hw6⟩ : ∃ y, w5.setCell ⟨w.heap.size, 1, none⟩ (.slice A4 (k + 1) c4) = y := ⟨_, rfl⟩
          have hF6 : Fr (fun x => x = w.heap.size) w5 w6 := by rw [← hw6]; exact Fr.set (X := fun x => x = w.heap.size) w5 ⟨w.heap.size, 1, none⟩ _ rfl
          have hz6 : w6.heap.size = w5.heap.size := by rw [← hw6]; simp
          have HT6 : Blk w6 w.heap.size [.int .i64 (s : Int), .slice A4 (k + 1) c4, .bool false, .int .i64 0] 91 := by rw [← hw6]; exact HT5.set 1 _
          have hO6 : w6.ownsRow (w.heap.size + 1) 93 4 (.slice A4 (k + 1) c4) (k + 1) (newCells s (os ++ [wr.heap.size])) := by
            have e : newCells s os ++ newCells s [wr.heap.size] = newCells s (os ++ [wr.heap.size]) := by simp [newCells]
            rw [e] at hO2
            refine ⟨hO2.1, ?_⟩
            rcases hO2.2 with h | ⟨g, cap, cur, hv, hbg, hg', rest⟩
            · exact .inl h
            · exact .inr ⟨g, cap, cur, hv, hbg, (hF6.blk g (Array.getElem?_eq_some_iff.1 hg').1 (by omega)).trans hg', rest⟩
          have hok6 : ∀ o ∈ os ++ [wr.heap.size], w.heap.size + 1 ≤ o ∧ o < w6.heap.size ∧ some o ≠ (Value.slice A4 (k + 1) c4).ownBlock ∧ Rd w6 (some ⟨o, 0, none⟩) (bys (List.replicate s 0)) := fun o ho => by
            have hcase : w.heap.size + 1 ≤ o ∧ o ≤ wr.heap.size ∧ (∀ g, (Value.slice Av k cv).ownBlock = some g → o ≠ g) ∧ Rd wb (some ⟨o, 0, none⟩) (bys (List.replicate s 0)) := by
              rcases List.mem_append.1 ho with ho | ho
              · obtain ⟨g1, g2, g3, g4⟩ := hI.ok o ho
                exact ⟨g1, by omega, fun g hg e => g3 (by rw [e]; exact hg.symm), g4.below hbb⟩
              · rw [List.mem_singleton] at ho
                subst ho
                refine ⟨by omega, Nat.le_refl _, fun g hg e => by have := hlo g hg; omega, Rd.of_some fun j u hu => ?_⟩
                have := (hBa.below hbab).cell hu
                rwa [show (⟨wr.heap.size, 0, none⟩ : Addr).add j = ⟨wr.heap.size, j, none⟩ by unfold Addr.add; split <;> simp_all]
            obtain ⟨g1, g2, g3, g4⟩ := hcase
            refine ⟨g1, by omega, fun e => ?_, (g4.fr hF5 (fun _ a ha e => by injection ha with ha; subst ha; exact g3 _ e.symm rfl)).fr hF6 (fun _ a ha e => by injection ha with ha; subst ha; have e' : o = w.heap.size := e; omega)⟩
            rcases hnew4 o e.symm with ⟨g0, h0, h1⟩ | h0
            · exact g3 g0 h0 h1
            · omega
          have hbel : Below w.heap.size w w6 := hF6.below ((((hI.bel.trans (hbb.mono (by omega)))).trans (hb5.mono (by omega)))) (by omega) (fun x hx => by omega)
          have HN := hide (show NewI w s (k + 1) w6 (.slice A4 (k + 1) c4) (os ++ [wr.heap.size]) from ⟨HT6, hO6, by rw [List.length_append, hI.len]; rfl, hok6, hbel, by omega⟩)
          clear hO2 hg2 hv2 hr4 ha4 hF5 hF6 HT6 hO6 hok6 hbel hb5 hnew4
          refine hK _ _ ?_
          clear hK Kk
          refine any_one (fuel := 2) (i := 10) (by kernel_rfl) rfl rfl (fun Kk hK => ?_)
          go_simp
          refine hK _ _ ?_
          clear hK Kk
          refine any_one (fuel := 1) (i := 11) (by kernel_rfl) rfl rfl (fun Kk hK => ?_)
          go_simp
          refine hK _ _ ?_
          clear hK Kk
          refine any_one (fuel := 0) (i := 12) (by kernel_rfl) rfl rfl (fun Kk hK => ?_)
          go_simp
          try rw [hw6]
          refine hK _ _ ?_
          clear hK Kk
          refine ⟨by kernel_rfl, ?_⟩
          go_wp2
          go_roundw
          case rel => exact ⟨k + 1, _, _, by go_num, by omega, HN.out⟩
          case measure => simp [RowKit.intOf]; omega
        · go_simp
          refine hK _ _ ?_
          clear hK Kk
          refine any_two (fuel := 5) (i := 4) (j := 8) (by kernel_rfl) rfl rfl rfl rfl (fun Kk hK => ?_) (fun Kk hK => ?_)
          · have hcw := hcl _ hba
            go_simp
            refine hK _ _ ?_
            clear hK Kk hcw
            refine any_one (fuel := 4) (i := 8) (by kernel_rfl) rfl rfl (fun Kk hK => ?_)
            go_simp
            try rw [hwb]
            refine hK _ _ ?_
            clear hK Kk
            refine any_one (fuel := 3) (i := 9) (by kernel_rfl) rfl rfl (fun Kk hK => ?_)
            refine oper_own rfl tSecs (base := w.heap.size + 1) (e := 93) (by rfl) HOW.out (A := some ⟨wr.heap.size + 1, 0, none⟩) (m := 1) (c := 1) (by rfl) (by rw [newCells_len]; rfl) HRB.out (newCells_one s _) (by omega) (by omega) (by omega) ?_
            intro v2 w5 hO2 hg2 hv2
            obtain ⟨A4, c4, rfl, _, hc4, hcm4, hr4, ha4⟩ := own_out hO2
            have hlo : ∀ g, (Value.slice Av k cv).ownBlock = some g → w.heap.size + 1 ≤ g ∧ g < wr.heap.size := fun g hg => by
              cases Av with
              | none => simp [Value.ownBlock] at hg
              | some a => simp [Value.ownBlock] at hg; have := hav a rfl; omega
            have hb5 : Below (w.heap.size + 1) wb w5 := (Below.refl _ _).grown hg2 (by omega) (fun g hg => (hlo g hg).1)
            have hF5 : Fr (fun x => some x = (Value.slice Av k cv).ownBlock) wb w5 := Fr.of_grown hg2 (fun g hg => hg.symm)
            have HT5 : Blk w5 w.heap.size [.int .i64 (s : Int), .slice Av k cv, .bool false, .int .i64 0] 91 := (hI.blk.below hbb).fr hF5 (fun e => by have := hlo _ e.symm; omega)
            have HS5 : w5.cell? ⟨w.heap.size, 1, none⟩ = some (.slice Av k cv) := HT5.cell (j := 1) rfl
            have jt := HT5.frozen 1
            have hsz5 := hg2.size
            have hnew4 : ∀ g, (Value.slice A4 (k + 1) c4).ownBlock = some g → (∃ g0, (Value.slice Av k cv).ownBlock = some g0 ∧ g = g0) ∨ wr.heap.size + 2 ≤ g := fun g hg => by
              rcases hv2 with h | h
              · exact .inl ⟨g, by rw [← h]; exact hg, rfl⟩
              · rw [h] at hg; injection hg with hg; exact .inr (by omega)
            obtain ⟨w6, hw6⟩ : ∃ y, w5.setCell ⟨w.heap.size, 1, none⟩ (.slice A4 (k + 1) c4) = y := ⟨_, rfl⟩
            have hF6 : Fr (fun x => x = w.heap.size) w5 w6 := by rw [← hw6]; exact Fr.set (X := fun x => x = w.heap.size) w5 ⟨w.heap.size, 1, none⟩ _ rfl
            have hz6 : w6.heap.size = w5.heap.size := by rw [← hw6]; simp
            have HT6 : Blk w6 w.heap.size [.int .i64 (s : Int), .slice A4 (k + 1) c4, .bool false, .int .i64 0] 91 := by rw [← hw6]; exact HT5.set 1 _
            have hO6 : w6.ownsRow (w.heap.size + 1) 93 4 (.slice A4 (k + 1) c4) (k + 1) (newCells s (os ++ [wr.heap.size])) := by
              have e : newCells s os ++ newCells s [wr.heap.size] = newCells s (os ++ [wr.heap.size]) := by simp [newCells]
              rw [e] at hO2
              refine ⟨hO2.1, ?_⟩
              rcases hO2.2 with h | ⟨g, cap, cur, hv, hbg, hg', rest⟩
              · exact .inl h
              · exact .inr ⟨g, cap, cur, hv, hbg, (hF6.blk g (Array.getElem?_eq_some_iff.1 hg').1 (by omega)).trans hg', rest⟩
            have hok6 : ∀ o ∈ os ++ [wr.heap.size], w.heap.size + 1 ≤ o ∧ o < w6.heap.size ∧ some o ≠ (Value.slice A4 (k + 1) c4).ownBlock ∧ Rd w6 (some ⟨o, 0, none⟩) (bys (List.replicate s 0)) := fun o ho => by
              have hcase : w.heap.size + 1 ≤ o ∧ o ≤ wr.heap.size ∧ (∀ g, (Value.slice Av k cv).ownBlock = some g → o ≠ g) ∧ Rd wb (some ⟨o, 0, none⟩) (bys (List.replicate s 0)) := by
                rcases List.mem_append.1 ho with ho | ho
                · obtain ⟨g1, g2, g3, g4⟩ := hI.ok o ho
                  exact ⟨g1, by omega, fun g hg e => g3 (by rw [e]; exact hg.symm), g4.below hbb⟩
                · rw [List.mem_singleton] at ho
                  subst ho
                  refine ⟨by omega, Nat.le_refl _, fun g hg e => by have := hlo g hg; omega, Rd.of_some fun j u hu => ?_⟩
                  have := (hBa.below hbab).cell hu
                  rwa [show (⟨wr.heap.size, 0, none⟩ : Addr).add j = ⟨wr.heap.size, j, none⟩ by unfold Addr.add; split <;> simp_all]
              obtain ⟨g1, g2, g3, g4⟩ := hcase
              refine ⟨g1, by omega, fun e => ?_, (g4.fr hF5 (fun _ a ha e => by injection ha with ha; subst ha; exact g3 _ e.symm rfl)).fr hF6 (fun _ a ha e => by injection ha with ha; subst ha; have e' : o = w.heap.size := e; omega)⟩
              rcases hnew4 o e.symm with ⟨g0, h0, h1⟩ | h0
              · exact g3 g0 h0 h1
              · omega
            have hbel : Below w.heap.size w w6 := hF6.below ((((hI.bel.trans (hbb.mono (by omega)))).trans (hb5.mono (by omega)))) (by omega) (fun x hx => by omega)
            have HN := hide (show NewI w s (k + 1) w6 (.slice A4 (k + 1) c4) (os ++ [wr.heap.size]) from ⟨HT6, hO6, by rw [List.length_append, hI.len]; rfl, hok6, hbel, by omega⟩)
            clear hO2 hg2 hv2 hr4 ha4 hF5 hF6 HT6 hO6 hok6 hbel hb5 hnew4
            refine hK _ _ ?_
            clear hK Kk
            refine any_one (fuel := 2) (i := 10) (by kernel_rfl) rfl rfl (fun Kk hK => ?_)
            go_simp
            refine hK _ _ ?_
            clear hK Kk
            refine any_one (fuel := 1) (i := 11) (by kernel_rfl) rfl rfl (fun Kk hK => ?_)
            go_simp
            refine hK _ _ ?_
            clear hK Kk
            refine any_one (fuel := 0) (i := 12) (by kernel_rfl) rfl rfl (fun Kk hK => ?_)
            go_simp
            try rw [hw6]
            refine hK _ _ ?_
            clear hK Kk
            refine ⟨by kernel_rfl, ?_⟩
            go_wp2
            go_roundw
            case rel => exact ⟨k + 1, _, _, by go_num, by omega, HN.out⟩
            case measure => simp [RowKit.intOf]; omega
          · go_simp
            try rw [hwb]
            refine hK _ _ ?_
            clear hK Kk
            refine any_one (fuel := 4) (i := 4) (by kernel_rfl) rfl rfl (fun Kk hK => ?_)
            have hcw := hcl _ hbb
            go_simp
            refine hK _ _ ?_
            clear hK Kk hcw
            refine any_one (fuel := 3) (i := 9) (by kernel_rfl) rfl rfl (fun Kk hK => ?_)
            refine oper_own rfl tSecs (base := w.heap.size + 1) (e := 93) (by rfl) HOW.out (A := some ⟨wr.heap.size + 1, 0, none⟩) (m := 1) (c := 1) (by rfl) (by rw [newCells_len]; rfl) HRB.out (newCells_one s _) (by omega) (by omega) (by omega) ?_
            intro v2 w5 hO2 hg2 hv2
            obtain ⟨A4, c4, rfl, _, hc4, hcm4, hr4, ha4⟩ := own_out hO2
            have hlo : ∀ g, (Value.slice Av k cv).ownBlock = some g → w.heap.size + 1 ≤ g ∧ g < wr.heap.size := fun g hg => by
              cases Av with
              | none => simp [Value.ownBlock] at hg
              | some a => simp [Value.ownBlock] at hg; have := hav a rfl; omega
            have hb5 : Below (w.heap.size + 1) wb w5 := (Below.refl _ _).grown hg2 (by omega) (fun g hg => (hlo g hg).1)
            have hF5 : Fr (fun x => some x = (Value.slice Av k cv).ownBlock) wb w5 := Fr.of_grown hg2 (fun g hg => hg.symm)
            have HT5 : Blk w5 w.heap.size [.int .i64 (s : Int), .slice Av k cv, .bool false, .int .i64 0] 91 := (hI.blk.below hbb).fr hF5 (fun e => by have := hlo _ e.symm; omega)
            have HS5 : w5.cell? ⟨w.heap.size, 1, none⟩ = some (.slice Av k cv) := HT5.cell (j := 1) rfl
            have jt := HT5.frozen 1
            have hsz5 := hg2.size
            have hnew4 : ∀ g, (Value.slice A4 (k + 1) c4).ownBlock = some g → (∃ g0, (Value.slice Av k cv).ownBlock = some g0 ∧ g = g0) ∨ wr.heap.size + 2 ≤ g := fun g hg => by
              rcases hv2 with h | h
              · exact .inl ⟨g, by rw [← h]; exact hg, rfl⟩
              · rw [h] at hg; injection hg with hg; exact .inr (by omega)
            obtain ⟨w6, hw6⟩ : ∃ y, w5.setCell ⟨w.heap.size, 1, none⟩ (.slice A4 (k + 1) c4) = y := ⟨_, rfl⟩
            have hF6 : Fr (fun x => x = w.heap.size) w5 w6 := by rw [← hw6]; exact Fr.set (X := fun x => x = w.heap.size) w5 ⟨w.heap.size, 1, none⟩ _ rfl
            have hz6 : w6.heap.size = w5.heap.size := by rw [← hw6]; simp
            have HT6 : Blk w6 w.heap.size [.int .i64 (s : Int), .slice A4 (k + 1) c4, .bool false, .int .i64 0] 91 := by rw [← hw6]; exact HT5.set 1 _
            have hO6 : w6.ownsRow (w.heap.size + 1) 93 4 (.slice A4 (k + 1) c4) (k + 1) (newCells s (os ++ [wr.heap.size])) := by
              have e : newCells s os ++ newCells s [wr.heap.size] = newCells s (os ++ [wr.heap.size]) := by simp [newCells]
              rw [e] at hO2
              refine ⟨hO2.1, ?_⟩
              rcases hO2.2 with h | ⟨g, cap, cur, hv, hbg, hg', rest⟩
              · exact .inl h
              · exact .inr ⟨g, cap, cur, hv, hbg, (hF6.blk g (Array.getElem?_eq_some_iff.1 hg').1 (by omega)).trans hg', rest⟩
            have hok6 : ∀ o ∈ os ++ [wr.heap.size], w.heap.size + 1 ≤ o ∧ o < w6.heap.size ∧ some o ≠ (Value.slice A4 (k + 1) c4).ownBlock ∧ Rd w6 (some ⟨o, 0, none⟩) (bys (List.replicate s 0)) := fun o ho => by
              have hcase : w.heap.size + 1 ≤ o ∧ o ≤ wr.heap.size ∧ (∀ g, (Value.slice Av k cv).ownBlock = some g → o ≠ g) ∧ Rd wb (some ⟨o, 0, none⟩) (bys (List.replicate s 0)) := by
                rcases List.mem_append.1 ho with ho | ho
                · obtain ⟨g1, g2, g3, g4⟩ := hI.ok o ho
                  exact ⟨g1, by omega, fun g hg e => g3 (by rw [e]; exact hg.symm), g4.below hbb⟩
                · rw [List.mem_singleton] at ho
                  subst ho
                  refine ⟨by omega, Nat.le_refl _, fun g hg e => by have := hlo g hg; omega, Rd.of_some fun j u hu => ?_⟩
                  have := (hBa.below hbab).cell hu
                  rwa [show (⟨wr.heap.size, 0, none⟩ : Addr).add j = ⟨wr.heap.size, j, none⟩ by unfold Addr.add; split <;> simp_all]
              obtain ⟨g1, g2, g3, g4⟩ := hcase
              refine ⟨g1, by omega, fun e => ?_, (g4.fr hF5 (fun _ a ha e => by injection ha with ha; subst ha; exact g3 _ e.symm rfl)).fr hF6 (fun _ a ha e => by injection ha with ha; subst ha; have e' : o = w.heap.size := e; omega)⟩
              rcases hnew4 o e.symm with ⟨g0, h0, h1⟩ | h0
              · exact g3 g0 h0 h1
              · omega
            have hbel : Below w.heap.size w w6 := hF6.below ((((hI.bel.trans (hbb.mono (by omega)))).trans (hb5.mono (by omega)))) (by omega) (fun x hx => by omega)
            have HN := hide (show NewI w s (k + 1) w6 (.slice A4 (k + 1) c4) (os ++ [wr.heap.size]) from ⟨HT6, hO6, by rw [List.length_append, hI.len]; rfl, hok6, hbel, by omega⟩)
            clear hO2 hg2 hv2 hr4 ha4 hF5 hF6 HT6 hO6 hok6 hbel hb5 hnew4
            refine hK _ _ ?_
            clear hK Kk
            refine any_one (fuel := 2) (i := 10) (by kernel_rfl) rfl rfl (fun Kk hK => ?_)
            go_simp
            refine hK _ _ ?_
            clear hK Kk
            refine any_one (fuel := 1) (i := 11) (by kernel_rfl) rfl rfl (fun Kk hK => ?_)
            go_simp
            refine hK _ _ ?_
            clear hK Kk
            refine any_one (fuel := 0) (i := 12) (by kernel_rfl) rfl rfl (fun Kk hK => ?_)
            go_simp
            try rw [hw6]
            refine hK _ _ ?_
            clear hK Kk
            refine ⟨by kernel_rfl, ?_⟩
            go_wp2
            go_roundw
            case rel => exact ⟨k + 1, _, _, by go_num, by omega, HN.out⟩
            case measure => simp [RowKit.intOf]; omega
    · have hkn' : k = n := by omega
      subst hkn'
      have q9 : decide ((k : Int) < (k : Int)) = false := decide_eq_false (by omega)
      obtain ⟨f, cs, HD⟩ := hI.done h1 h2 h3 h4
      go_wp2
      refine bodyPost_ret (results_tmp2 rfl _ _ _) rfl ?_
      exact ⟨f, cs, rfl, HD⟩
theorem rnew08_bad (w : World) (n s : Int) (hn : ¬ (1 ≤ n ∧ n ≤ 65536 ∧ 1 ≤ s ∧ s ≤ 8192)) :
    Calls Tryz.prog 27 #[.int .i64 n, .int .i64 s] w fun e w' => e = .returned (.tuple #[.pointer none, .int .i64 80]) ∧ w = w' := by
  rcases (show n < 1 ∨ (1 ≤ n ∧ 65536 < n) ∨ (1 ≤ n ∧ n ≤ 65536 ∧ s < 1) ∨ (1 ≤ n ∧ n ≤ 65536 ∧ 1 ≤ s ∧ 8192 < s) by omega) with h1 | ⟨h1, h2⟩ | ⟨h1, h2, h3⟩ | ⟨h1, h2, h3, h4⟩
  · have q1 : decide (n < 1) = true := decide_eq_true h1
    clear hn
    go_enter Tryz.func27, Tryz.ntmps27
    go_wp2
    refine bodyPost_ret (results_tmp2 rfl _ _ _) rfl ?_
    exact ⟨rfl, rfl⟩
  · have q1 : decide (n < 1) = false := decide_eq_false (by omega)
    have q2 : decide ((65536 : Int) < n) = true := decide_eq_true h2
    clear hn
    go_enter Tryz.func27, Tryz.ntmps27
    go_wp2
    refine bodyPost_ret (results_tmp2 rfl _ _ _) rfl ?_
    exact ⟨rfl, rfl⟩
  · have q1 : decide (n < 1) = false := decide_eq_false (by omega)
    have q2 : decide ((65536 : Int) < n) = false := decide_eq_false (by omega)
    have q3 : decide (s < 1) = true := decide_eq_true h3
    clear hn
    go_enter Tryz.func27, Tryz.ntmps27
    go_wp2
    refine bodyPost_ret (results_tmp2 rfl _ _ _) rfl ?_
    exact ⟨rfl, rfl⟩
  · have q1 : decide (n < 1) = false := decide_eq_false (by omega)
    have q2 : decide ((65536 : Int) < n) = false := decide_eq_false (by omega)
    have q3 : decide (s < 1) = false := decide_eq_false (by omega)
    have q4 : decide ((8192 : Int) < s) = true := decide_eq_true h4
    clear hn
    go_enter Tryz.func27, Tryz.ntmps27
    go_wp2
    refine bodyPost_ret (results_tmp2 rfl _ _ _) rfl ?_
    exact ⟨rfl, rfl⟩
end
end Go.Proofs.YtoaodmidegkolaaGreatDoor
namespace Go.Proofs.YtoaodmidegkolaaGreatDoor
set_option maxRecDepth 20000
open Go.RowKit Go.Px Go.Maps
set_option linter.unusedVariables false
section
variable {w w' : World} {Q Q' X : Nat → Prop} {t f : Nat} {cs cs' : List Value} {d d' : Dk}
/-- The cells of a row of sectors are single. -/
theorem RDIs.ones (h : RDIs w Q t f cs d) : ∀ u ∈ cs.take (d.fast.length * 4), u.oneCell' = true := fun u hu => by
  obtain ⟨j, hj, hju⟩ := List.mem_iff_getElem.1 hu
  rw [List.length_take] at hj
  rw [List.getElem_take] at hju
  have hjc : j < cs.length := by omega
  have hu' : cs[j]? = some u := by rw [List.getElem?_eq_getElem hjc, hju]
  have hi : j / 4 < d.fast.length := by omega
  obtain ⟨A, n, c, B, m, e, h1, h2, h3, h4, _⟩ := h.sec (j / 4) hi
  rcases (show j = j / 4 * 4 ∨ j = j / 4 * 4 + 1 ∨ j = j / 4 * 4 + 2 ∨ j = j / 4 * 4 + 3 by omega) with g | g | g | g <;> rw [g] at hu'
  · rw [h1] at hu'; injection hu' with hu'; subst hu'; rfl
  · rw [h2] at hu'; injection hu' with hu'; subst hu'; rfl
  · rw [h3] at hu'; injection hu' with hu'; subst hu'; rfl
  · rw [h4] at hu'; injection hu' with hu'; subst hu'; rfl
/-- A copy's row and block: the same disk, its bytes shared. -/
theorem RDIs.twin (h : RDIs w Q t f cs d) {W : World} {t2 : Nat} {v : Value} (hb : Below w.heap.size w W) (ht2 : w.heap.size ≤ t2) (hO : W.ownsRow w.heap.size 93 4 v d.fast.length (cs.take (d.fast.length * 4))) (hB : Blk W t2 [.int .i64 (d.size : Int), v, .bool (decide (0 ≤ d.fuse)), .int .i64 (max d.fuse 0)] 91) (hne : v.ownBlock ≠ some t2) : ∃ f2 cs2, RDIs W (fun b => Q b ∧ b < w.heap.size) t2 f2 cs2 d ∧ w.heap.size ≤ f2 := by
  have hl := h.low.below hb
  have hn1 := h.ok.n1
  obtain ⟨hx, hcase⟩ := hO
  rcases hcase with ⟨_, hn⟩ | ⟨g, cap, cur, rfl, hbg, hg, hnc, hcm, hcs, htk⟩
  · omega
  · refine ⟨g, cur.toList, ⟨⟨cap, hB, hnc, hcm⟩, by simpa [Blk] using hg, ?_, fun i hi => ?_, h.ok, fun e => hne (by rw [e]; rfl), fun b hb => ⟨by omega, by omega⟩⟩, hbg⟩
    · simp only [Array.length_toList, hcs]; exact Nat.mul_le_mul_right _ hnc
    · refine (hl.sec i hi).cells (fun k hk => ?_)
      have e : (cur.toList.take (d.fast.length * 4))[i * 4 + k]? = (cs.take (d.fast.length * 4))[i * 4 + k]? := by rw [htk]
      rw [List.getElem?_take, List.getElem?_take, if_pos (by omega), if_pos (by omega)] at e
      exact e
end
end Go.Proofs.YtoaodmidegkolaaGreatDoor
namespace Go.Proofs.YtoaodmidegkolaaGreatDoor
set_option maxRecDepth 20000
open Go.RowKit Go.Px Go.Maps
set_option linter.unusedVariables false
section
variable {d dk : Dk} {L : List Int} {k i : Nat}
/-- What is left of a disk when k of the loose sectors are done. -/
def rlow (d : Dk) (L : List Int) (dk : Dk) (k : Nat) : Dk := { dk with loose := fun x => if x ∈ L.take k then none else d.loose x }
def stepF (keep : List Bool) (torn cut : Int) (dk : Dk) (k i : Nat) (bs fi : List UInt8) : List UInt8 :=
  if (k : Int) = torn then (if dk.bad (i : Int) = true then fi else tornB dk.size bs fi cut) else if keep.getD k false = true then bs else fi
def stepB (keep : List Bool) (torn : Int) (dk : Dk) (k i : Nat) : Bool := if (k : Int) = torn then dk.bad (i : Int) else if keep.getD k false = true then false else dk.bad (i : Int)
theorem rlow_loose (hk : k < L.length) (hLk : L[k] = (i : Int)) : (fun x => if x ∈ L.take (k + 1) then none else d.loose x) = fun x => if x = (i : Int) then none else if x ∈ L.take k then none else d.loose x := by
  funext x
  rw [List.take_succ_eq_append_getElem hk]
  simp only [List.mem_append, List.mem_singleton, hLk]
  by_cases h1 : x = (i : Int) <;> by_cases h2 : x ∈ L.take k <;> simp [h1, h2]
theorem rlow_fasten (hk : k < L.length) (hLk : L[k] = (i : Int)) (b : List UInt8) : rlow d L (dk.fasten i b) (k + 1) = (rlow d L dk k).put4 i b none false := by
  unfold rlow
  rw [rlow_loose hk hLk]
  rfl
theorem rlow_keep (hk : k < L.length) (hLk : L[k] = (i : Int)) (hi : i < dk.fast.length) : rlow d L dk (k + 1) = (rlow d L dk k).put4 i dk.fast[i] none (dk.bad (i : Int)) := by
  unfold rlow
  rw [rlow_loose hk hLk]
  have e1 : dk.fast = dk.fast.set i dk.fast[i] := by rw [List.set_getElem_self]
  have e2 : dk.bad = fun x => if x = (i : Int) then dk.bad (i : Int) else dk.bad x := by
    funext x
    by_cases h : x = (i : Int)
    · rw [if_pos h, h]
    · rw [if_neg h]
  show Dk.mk _ dk.fast _ dk.bad _ = Dk.mk _ (dk.fast.set i dk.fast[i]) _ (fun x => if x = (i : Int) then dk.bad (i : Int) else dk.bad x) _
  rw [← e1, ← e2]
  rfl
theorem rlow_step (keep : List Bool) (torn cut : Int) (hk : k < L.length) (hLk : L[k] = (i : Int)) (hi : i < dk.fast.length) {bs : List UInt8} (hl : dk.loose (i : Int) = some bs) :
    rlow d L (dk.crashStep keep torn cut k (i : Int)) (k + 1) = (rlow d L dk k).put4 i (stepF keep torn cut dk k i bs dk.fast[i]) none (stepB keep torn dk k i) := by
  have hfd : dk.fast.getD i [] = dk.fast[i] := by rw [List.getD_eq_getElem?_getD, List.getElem?_eq_getElem hi]; rfl
  unfold Dk.crashStep stepF stepB
  rw [Int.toNat_natCast, hl, hfd]
  by_cases h1 : (k : Int) = torn
  · rw [if_pos h1, if_pos h1, if_pos h1]
    cases hb : dk.bad (i : Int) with
    | true =>
      rw [if_pos rfl, if_pos rfl, rlow_keep hk hLk hi, hb]
    | false =>
      rw [if_neg (by decide), if_neg (by decide), rlow_fasten hk hLk]; rfl
  · rw [if_neg h1, if_neg h1, if_neg h1]
    by_cases h2 : keep.getD k false = true
    · rw [if_pos h2, if_pos h2, if_pos h2, rlow_fasten hk hLk]; rfl
    · rw [if_neg h2, if_neg h2, if_neg h2, rlow_keep hk hLk hi]
theorem rlow_zero (d : Dk) (L : List Int) : rlow d L d 0 = d := by
  unfold rlow
  simp
theorem rlow_done (ok : d.Ok) (keep : List Bool) (torn cut : Int) : { rlow d d.looseL (d.crashTo keep torn cut d.looseL d.looseL.length) d.looseL.length with fuse := -1 } = d.crash keep torn cut := by
  unfold rlow Dk.crash
  have e : (fun x => if x ∈ d.looseL.take d.looseL.length then none else d.loose x) = fun _ => none := by
    funext x
    rw [List.take_length]
    by_cases h : x ∈ d.looseL
    · rw [if_pos h]
    · rw [if_neg h]
      cases hx : d.loose x with
      | none => rfl
      | some b => exact absurd ((Dk.mem_looseL ok).2 (by rw [hx]; rfl)) h
  rw [e]
end
end Go.Proofs.YtoaodmidegkolaaGreatDoor
namespace Go.Proofs.YtoaodmidegkolaaGreatDoor
set_option maxRecDepth 20000
open Go.RowKit Go.Px Go.Maps
set_option linter.unusedVariables false
section
variable {w w' : World} {Q Q' X : Nat → Prop} {t f : Nat} {cs cs' : List Value} {d d' : Dk}
theorem own_cells1 {W : World} {B : Nat} {T : TypeId} {u : Value} {n : Nat} {xs : List Value} (h : W.ownsRow B T 1 u n xs) (h1 : 1 ≤ n) : ∃ g c, u = .slice (some ⟨g, 0, none⟩) n c ∧ B ≤ g ∧ n ≤ c ∧ g < W.heap.size ∧ Rd W (some ⟨g, 0, none⟩) xs := by
  obtain ⟨A, c, rfl, hl, hc, hcm, hr, ha⟩ := own_out h
  rcases h.2 with ⟨_, h0⟩ | ⟨g, cap, cur, hv, hbg, hg, _⟩
  · omega
  · injection hv with e1 e2 e3
    subst e1 e3
    exact ⟨g, c, rfl, hbg, hc, (ha _ rfl).2, hr⟩
theorem RDIs.lay4 {wr wc : World} {csk : List Value} {dk : Dk} {i n c : Nat} {A : Option Addr} {b : List UInt8} {z : Bool} (hD : RDIs wr Q t f csk dk) (hb : Below wr.heap.size wr wc) (hi : i < dk.fast.length) (hbl : b.length = dk.size) (hbn : b.length = n) (hnc : n ≤ c) (hc : c ≤ 9223372036854775807) (hr : Rd wc A (bys b)) (hA : ∀ a, A = some a → Q a.block) :
    (∃ cs', RDIs (w4 wc f i (.slice A n c) (.bool false) (.slice none 0 0) (.bool z)) Q t f cs' (dk.put4 i b none z)) ∧ Fr (ROwn t f) wr (w4 wc f i (.slice A n c) (.bool false) (.slice none 0 0) (.bool z)) := by
  obtain ⟨h1, h2⟩ := (hD.below hb).put4 hi (A := A) (n := n) (c := c) (b := b) (o := none) (z := z) (ol := false) rfl hbl hbn hnc hc hr hA (Nat.zero_le 0) (by omega) (fun x hx => by cases hx) (B := none) (m := 0) (e := 0)
  exact ⟨h1, (Fr.of_below hb).trans (rown_f h2)⟩
set_option maxHeartbeats 6400000 in
theorem rcrash08_any (h : RDIs w Q t f cs d) (hQ : ∀ b, w.heap.size ≤ b → Q b) (K : Option Addr) (kn kc : Nat) (keep : List Bool) (torn cut : Int) (hc1 : -9223372036854775808 ≤ cut) (hc2 : cut ≤ 9223372036854775807) (hkn : keep.length = kn) (hk63 : kn ≤ 9223372036854775807) (hrk : Rd w K (bls keep)) (hK : bls keep ≠ [] → ∀ a, K = some a → ¬ ROwn t f a.block) :
    Calls Tryz.prog 30 #[.pointer (some ⟨t, 0, none⟩), .agg #[.slice K kn kc, .int .i64 torn, .int .i64 cut]] w fun e w' => e = .returned (.tuple #[]) ∧ (∃ cs', RDIs w' Q t f cs' (d.crash keep torn cut)) ∧ Fr (ROwn t f) w w' := by
  obtain ⟨gb, hgb⟩ : ∃ g, w.heap.size = g := ⟨_, rfl⟩
  obtain ⟨w0, hw0⟩ : ∃ y, w.alloc (.cells #[.slice K kn kc, .int .i64 torn, .int .i64 cut] 28) = y := ⟨_, rfl⟩
  have hG : Blk w0 gb [.slice K kn kc, .int .i64 torn, .int .i64 cut] 28 := by rw [← hw0, ← hgb]; exact Blk.new w _ _
  have hb0 : Below w.heap.size w w0 := by rw [← hw0]; exact (Below.refl _ _).alloc (Nat.le_refl _) _
  have h0 := h.below hb0
  have HLO := hide (rloose08_any h0)
  have ok := h.ok
  have hN := h.ok.n2
  have hs2 := h.ok.s2
  have hll := d.looseL_len
  have hlts := h.lts
  have hrk0 := hrk.below hb0
  have hz0 : w0.heap.size = gb + 1 := by rw [← hw0, World.size_alloc, hgb]
  obtain ⟨L, hL⟩ : ∃ L, d.looseL = L := ⟨_, rfl⟩
  have hget : ∀ (k : Nat) (hk : k < L.length), ∃ bs, d.loose L[k] = some bs ∧ 0 ≤ L[k] ∧ L[k] < d.fast.length ∧ bs.length = d.size ∧ L[k] ∉ L.take k := by subst hL; exact fun k hk => Dk.looseL_get ok hk
  have hdone := rlow_done ok keep torn cut
  have h0L : ∀ y ∈ L, 0 ≤ y := fun y hy => by
    rw [← hL] at hy
    obtain ⟨b, hb⟩ := Option.isSome_iff_exists.1 ((Dk.mem_looseL ok).1 hy)
    exact (ok.lo _ b hb).1
  rw [hL] at HLO hll hdone
  have Hget := hide hget
  have H0L := hide h0L
  have HQ := hide hQ
  have HK := hide hK
  have H0 := hide h0
  obtain ⟨m, hm⟩ : ∃ m, L.length = m := ⟨_, rfl⟩
  rw [hm] at HLO hll hdone
  have HDN := hide hdone
  have Hm := hide hm
  have Hw0 := hide hw0
  have Hg := hide hgb
  have hgle : t < gb ∧ f < gb := by omega
  clear h h0 hL hget h0L hQ hK hm hw0 hgb hrk ok hdone
  go_enter Tryz.func30, Tryz.ntmps30
  go_wp2_with fail
  rw [Hw0.out, Hg.out]
  refine HLO.out.mono ?_
  rintro x w3 ⟨u, rfl, hO3, hb3⟩
  rw [hz0] at hO3
  obtain ⟨A, c, rfl, _, hLc, hcm, hr3, hA3⟩ := own_out hO3
  have hAg : 1 ≤ m → ∃ g, A = some ⟨g, 0, none⟩ ∧ gb + 1 ≤ g := fun h1 => by
    obtain ⟨g, c', hv, hg1, _⟩ := own_cells1 hO3 h1
    injection hv with e1
    exact ⟨g, e1, hg1⟩
  have hD3 := H0.out.below hb3
  have hF3 : Fr (ROwn t f) w w3 := (Fr.of_below hb0).trans' (Y := fun _ => False) (Fr.of_below hb3) (fun b hb => hb.elim)
  have hG3 := hG.below hb3
  have hK3 := hrk0.below hb3
  have hnG : ¬ ROwn t f gb := fun hx => by rcases hx with h | h <;> omega
  have hcm' : c ≤ 9223372036854775807 := by unfold maxLen at hcm; omega
  rw [← rlow_zero d L] at hD3
  have HAg := hide hAg
  have hsz3 := hb3.size
  rw [hz0] at hsz3
  clear HLO hG hrk0 hA3 hO3 H0 hAg hcm hb3 hb0
  go_wp2_with fail
  go_loopw [5] (fun s W => ∃ k : Nat, s = .int .i64 (k : Int) ∧ k ≤ m ∧ (∃ csk, RDIs W Q t f csk (rlow d L (d.crashTo keep torn cut L k) k)) ∧ Fr (ROwn t f) w W ∧ Rd W A (ints L) ∧ Blk W gb [.slice K kn kc, .int .i64 torn, .int .i64 cut] 28 ∧ Rd W K (bls keep)) (fun s _ => m - (RowKit.intOf s).toNat)
  case atStart => exact ⟨0, rfl, by omega, ⟨_, hD3⟩, hF3, hr3, hG3, hK3⟩
  case round =>
    clear hD3 hF3 hr3 hG3 hK3
    obtain ⟨k, rfl, hkm, ⟨csk, hDk⟩, hFk, hrk, hGk, hKk⟩ := hrel
    by_cases hlt : k < m
    · have hkl : k < L.length := by rw [Hm.out]; exact hlt
      obtain ⟨g, rfl, hg1⟩ := HAg.out (by omega)
      have hca : wr.cell? ⟨g, k, none⟩ = some (.int .i64 L[k]) := by
        obtain ⟨a, ha, hca⟩ := hrk k _ (ints_get hkl)
        injection ha with ha
        subst ha
        rwa [show (⟨g, 0, none⟩ : Addr).add k = ⟨g, k, none⟩ by unfold Addr.add; split <;> simp_all] at hca
      obtain ⟨bs, g1, g2, g3, g4, g5⟩ := Hget.out k hkl
      obtain ⟨s1, s2, s3⟩ := Dk.crashTo_same keep torn cut d L H0L.out k (by rw [Hm.out]; omega)
      have hlk : (d.crashTo keep torn cut L k).loose L[k] = some bs := by rw [s3 _ g5]; exact g1
      obtain ⟨i, hi⟩ : ∃ i : Nat, L[k] = (i : Int) := ⟨(L[k]).toNat, by omega⟩
      have hnx : d.crashTo keep torn cut L (k + 1) = (d.crashTo keep torn cut L k).crashStep keep torn cut k (i : Int) := by
        show (d.crashTo keep torn cut L k).crashStep keep torn cut k (L.getD k 0) = _
        rw [intD_at08 hkl, hi]
      have hiN : i < (d.crashTo keep torn cut L k).fast.length := by rw [hi] at g3; omega
      have hst := rlow_step keep torn cut (d := d) hkl hi hiN (by rw [← hi]; exact hlk)
      rw [← hnx] at hst
      rw [hi] at hca hlk
      have hll2 : (rlow d L (d.crashTo keep torn cut L k) k).loose (i : Int) = some bs := by
        show (if (i : Int) ∈ L.take k then none else d.loose (i : Int)) = _
        rw [← hi, if_neg g5]; exact g1
      obtain ⟨dk, hdk⟩ : ∃ dk, rlow d L (d.crashTo keep torn cut L k) k = dk := ⟨_, rfl⟩
      have hdf : (d.crashTo keep torn cut L k).fast[i] = dk.fast[i]'(by rw [← hdk]; exact hiN) := by subst hdk; rfl
      have hdb : (d.crashTo keep torn cut L k).bad (i : Int) = dk.bad (i : Int) := by subst hdk; rfl
      have hds : (d.crashTo keep torn cut L k).size = dk.size := by subst hdk; rfl
      have hdn : (d.crashTo keep torn cut L k).fast.length = dk.fast.length := by subst hdk; rfl
      have hSF : stepF keep torn cut (d.crashTo keep torn cut L k) k i bs (d.crashTo keep torn cut L k).fast[i] = if (k : Int) = torn then (if dk.bad (i : Int) = true then dk.fast[i]'(by rw [← hdn]; exact hiN) else tornB dk.size bs (dk.fast[i]'(by rw [← hdn]; exact hiN)) cut) else if keep.getD k false = true then bs else dk.fast[i]'(by rw [← hdn]; exact hiN) := by
        unfold stepF; rw [hdb, hds, hdf]
      have hSB : stepB keep torn (d.crashTo keep torn cut L k) k i = if (k : Int) = torn then dk.bad (i : Int) else if keep.getD k false = true then false else dk.bad (i : Int) := by
        unfold stepB; rw [hdb]
      rw [hdn] at hiN
      rw [hdk, hSF, hSB] at hst
      rw [hdk] at hDk hll2
      have hdN : dk.fast.length = d.fast.length := by omega
      have hdS : dk.size = d.size := by omega
      obtain ⟨N, hNe⟩ : ∃ N, dk.fast.length = N := ⟨_, rfl⟩
      have hiN' : i < N := by omega
      have hN' : N ≤ 65536 := by omega
      obtain ⟨cb, bb, _⟩ := hDk.blk
      have y0 := bb.cell (j := 0) rfl
      have y1 := bb.cell (j := 1) rfl
      rw [hNe] at y1
      obtain ⟨A1, n1, c1, B1, m1, e1, v0, v1, v2, v3, p1, p2, p3, p4, p5, p6, p7, p8⟩ := hDk.at_ hiN
      obtain ⟨p9, p10, p11⟩ := p8 bs hll2
      rw [hll2] at v1
      obtain ⟨bd, hbd⟩ : ∃ b, dk.bad (i : Int) = b := ⟨_, rfl⟩
      obtain ⟨fi, hfi⟩ : ∃ b, dk.fast[i] = b := ⟨_, rfl⟩
      rw [hbd] at v3 hst
      rw [hfi] at p1 p4 hst
      have hbl : bs.length = dk.size := by omega
      have hfl : fi.length = dk.size := by rw [← hfi]; exact hDk.ok.fl _ (List.getElem_mem hiN)
      have HST := hide hst
      have HD := hide hDk
      have HFk := hide hFk
      have Hr := hide hrk
      have HG := hide hGk
      have HKk := hide hKk
      have q0 := hGk.cell (j := 0) rfl
      have q1 := hGk.cell (j := 1) rfl
      have q2 := hGk.cell (j := 2) rfl
      have HIN := hide hiN
      have HdS := hide hdS
      obtain ⟨S, hS⟩ : ∃ S, dk.size = S := ⟨_, rfl⟩
      rw [hS] at y0 hbl hfl
      have HS := hide hS
      have hS2 : S ≤ 8192 := by omega
      have HNe := hide hNe
      have HF0 := hFk.size
      rw [Hg.out] at HF0
      have hge : g < wr.heap.size := by have := World.block_lt_of_cell? wr _ hca; exact this
      have Hbn := hide (And.intro p1 (And.intro p2 (And.intro p3 (And.intro p4 p5))))
      have HBn := hide (And.intro p9 (And.intro p10 (And.intro p11 (And.intro p6 p7))))
      clear hst hDk hFk hrk hGk hKk bb hSF hSB hdf hdb hds hdn hdk hnx hlk hll2 p1 p2 p3 p4 p5 p6 p7 p8 p9 p10 p11 g1 g2 g3 g4 g5 s1 s2 s3 hi hfi hbd hNe hS hdS hdN hiN
      have hSt : ∀ Z, Below wr.heap.size wr Z → Z.cell? ⟨t, 1, none⟩ = some (.slice (some ⟨f, 0, none⟩) N cb) ∧ Z.cell? ⟨g, k, none⟩ = some (.int .i64 (i : Int)) ∧ Z.cell? ⟨f, i * 4, none⟩ = some (.slice A1 n1 c1) ∧ Z.cell? ⟨f, i * 4 + 1, none⟩ = some (.bool (some bs).isSome) ∧ Z.cell? ⟨f, i * 4 + 2, none⟩ = some (.slice B1 m1 e1) ∧ Z.cell? ⟨f, i * 4 + 3, none⟩ = some (.bool bd) := fun Z hZ => ⟨below_cell08 hZ y1, below_cell08 hZ hca, below_cell08 hZ v0, below_cell08 hZ v1, below_cell08 hZ v2, below_cell08 hZ v3⟩
      have HSt := hide hSt
      clear hSt
      go_wp2_with fail
      have hS0 := HSt.out wr.drew (Below.refl _ _).drew
      refine wp_region_held_drew (S := fun Z => Z.cell? ⟨t, 1, none⟩ = some (.slice (some ⟨f, 0, none⟩) N cb) ∧ Z.cell? ⟨g, k, none⟩ = some (.int .i64 (i : Int)) ∧ Z.cell? ⟨f, i * 4, none⟩ = some (.slice A1 n1 c1) ∧ Z.cell? ⟨f, i * 4 + 1, none⟩ = some (.bool (some bs).isSome) ∧ Z.cell? ⟨f, i * 4 + 2, none⟩ = some (.slice B1 m1 e1) ∧ Z.cell? ⟨f, i * 4 + 3, none⟩ = some (.bool bd)) (by kernel_rfl) hS0 (fun _ => ?_)
      refine wpAnyH_take (fuel := 11) (i := 0) (v := .pointer (some ⟨t, 0, none⟩)) rfl (by kernel_rfl) (by kernel_rfl) (by kernel_rfl) (fun _ _ _ h => h) (Or.inl ⟨by rfl, fun Z hZ => ?_⟩) hS0 ?_
      · obtain ⟨z1, z2, z3, z4, z5, z6⟩ := hZ
        go_simp
      refine wpAnyH_take (fuel := 10) (i := 1) (v := .pointer (some ⟨t, 0, none⟩)) rfl (by kernel_rfl) (by kernel_rfl) (by kernel_rfl) (fun _ _ _ h => h) (Or.inl ⟨by rfl, fun Z hZ => ?_⟩) hS0 ?_
      · obtain ⟨z1, z2, z3, z4, z5, z6⟩ := hZ
        go_simp
      refine wpAnyH_take (fuel := 9) (i := 2) (v := .pointer (some ⟨t, 1, none⟩)) rfl (by kernel_rfl) (by kernel_rfl) (by kernel_rfl) (fun _ _ _ h => h) (Or.inl ⟨by rfl, fun Z hZ => ?_⟩) hS0 ?_
      · obtain ⟨z1, z2, z3, z4, z5, z6⟩ := hZ
        go_simp
      refine wpAnyH_take (fuel := 8) (i := 3) (v := .slice (some ⟨f, 0, none⟩) N cb) rfl (by kernel_rfl) (by kernel_rfl) (by kernel_rfl) (fun _ _ _ h => h) (Or.inl ⟨by rfl, fun Z hZ => ?_⟩) hS0 ?_
      · obtain ⟨z1, z2, z3, z4, z5, z6⟩ := hZ
        go_simp
      refine wpAnyH_take (fuel := 7) (i := 4) (v := .slice (some ⟨g, 0, none⟩) m c) rfl (by kernel_rfl) (by kernel_rfl) (by kernel_rfl) (fun _ _ _ h => h) (Or.inl ⟨by rfl, fun Z hZ => ?_⟩) hS0 ?_
      · obtain ⟨z1, z2, z3, z4, z5, z6⟩ := hZ
        go_simp
      refine wpAnyH_take (fuel := 6) (i := 5) (v := .int .i64 (k : Int)) rfl (by kernel_rfl) (by kernel_rfl) (by kernel_rfl) (fun _ _ _ h => h) (Or.inl ⟨by rfl, fun Z hZ => ?_⟩) hS0 ?_
      · obtain ⟨z1, z2, z3, z4, z5, z6⟩ := hZ
        go_simp
      refine wpAnyH_take (fuel := 5) (i := 6) (v := .pointer (some ⟨g, k, none⟩)) rfl (by kernel_rfl) (by kernel_rfl) (by kernel_rfl) (fun _ _ _ h => h) (Or.inl ⟨by rfl, fun Z hZ => ?_⟩) hS0 ?_
      · obtain ⟨z1, z2, z3, z4, z5, z6⟩ := hZ
        go_simp
      refine wpAnyH_take (fuel := 4) (i := 7) (v := .int .i64 (i : Int)) rfl (by kernel_rfl) (by kernel_rfl) (by kernel_rfl) (fun _ _ _ h => h) (Or.inl ⟨by rfl, fun Z hZ => ?_⟩) hS0 ?_
      · obtain ⟨z1, z2, z3, z4, z5, z6⟩ := hZ
        go_simp
      refine wpAnyH_take (fuel := 3) (i := 8) (v := .pointer (some ⟨f, i * 4, none⟩)) rfl (by kernel_rfl) (by kernel_rfl) (by kernel_rfl) (fun _ _ _ h => h) (Or.inl ⟨by rfl, fun Z hZ => ?_⟩) hS0 ?_
      · obtain ⟨z1, z2, z3, z4, z5, z6⟩ := hZ
        go_simp
      refine wpAnyH_take (fuel := 2) (i := 9) (v := .agg #[.slice A1 n1 c1, .bool true, .slice B1 m1 e1, .bool bd]) rfl (by kernel_rfl) (by kernel_rfl) (by kernel_rfl) (fun _ _ _ h => h) (Or.inl ⟨by rfl, fun Z hZ => ?_⟩) hS0 ?_
      · obtain ⟨z1, z2, z3, z4, z5, z6⟩ := hZ
        go_simp
      obtain ⟨sb, hsb⟩ : ∃ y, wr.heap.size = y := ⟨_, rfl⟩
      obtain ⟨wa, hwa⟩ : ∃ y, (wr.alloc (.cells #[.slice none 0 0, .bool false, .slice none 0 0, .bool false] 93)).drew = y := ⟨_, rfl⟩
      have hba : Below wr.heap.size wr wa := by rw [← hwa]; exact ((Below.refl _ _).alloc (Nat.le_refl _) _).drew
      have hBa : Blk wa sb [.slice none 0 0, .bool false, .slice none 0 0, .bool false] 93 := by rw [← hwa, ← hsb]; exact Blk.new wr _ _
      have hza : wa.heap.size = sb + 1 := by rw [← hwa, ← hsb]; exact World.size_alloc _ _
      have i0 := hBa.cell (j := 0) rfl
      have i1 := hBa.cell (j := 1) rfl
      have i2 := hBa.cell (j := 2) rfl
      have i3 := hBa.cell (j := 3) rfl
      have j0 := hBa.frozen 0
      have j1 := hBa.frozen 1
      have j2 := hBa.frozen 2
      have j3 := hBa.frozen 3
      obtain ⟨w5, hw5⟩ : ∃ y, (((wa.setCell ⟨sb, 0, none⟩ (.slice A1 n1 c1)).setCell ⟨sb, 1, none⟩ (.bool true)).setCell ⟨sb, 2, none⟩ (.slice B1 m1 e1)).setCell ⟨sb, 3, none⟩ (.bool bd) = y := ⟨_, rfl⟩
      have hF5 : Fr (fun x => x = sb) wa w5 := by rw [← hw5]; exact (((Fr.set (X := fun x => x = sb) wa ⟨sb, 0, none⟩ _ rfl).trans (Fr.set (X := fun x => x = sb) _ ⟨sb, 1, none⟩ _ rfl)).trans (Fr.set (X := fun x => x = sb) _ ⟨sb, 2, none⟩ _ rfl)).trans (Fr.set (X := fun x => x = sb) _ ⟨sb, 3, none⟩ _ rfl)
      have hB5 : Blk w5 sb [.slice A1 n1 c1, .bool true, .slice B1 m1 e1, .bool bd] 93 := by rw [← hw5]; exact (((hBa.set 0 _).set 1 _).set 2 _).set 3 _
      have hb5 : Below wr.heap.size wr w5 := hF5.below hba (by omega) (fun x hx => by omega)
      have hz5 : w5.heap.size = sb + 1 := by rw [← hw5]; simp [hza]
      have HSa := HSt.out _ hba
      have HS5 := HSt.out _ hb5
      have Hwa := hide hwa
      have Hw5 := hide hw5
      clear hwa hw5
      refine all_one (fuel := 1) (i := 10) (by kernel_rfl) rfl rfl (fun Kk hK => ?_)
      go_simp
      try rw [hsb]
      try rw [Hwa.out]
      refine hK _ _ ⟨HSa, ?_⟩
      clear hK Kk
      refine all_one (fuel := 0) (i := 11) (by kernel_rfl) rfl rfl (fun Kk hK => ?_)
      go_simp
      try rw [Hw5.out]
      refine hK _ _ ⟨HS5, ?_⟩
      clear hK Kk
      refine wpAnyH_done (by kernel_rfl) ?_ _
      have y05 := below_cell08 hb5 y0
      have y15 := below_cell08 hb5 y1
      have q05 := below_cell08 hb5 q0
      have q15 := below_cell08 hb5 q1
      have q25 := below_cell08 hb5 q2
      have b50 := hB5.cell (j := 0) rfl
      have b51 := hB5.cell (j := 1) rfl
      have b52 := hB5.cell (j := 2) rfl
      have b53 := hB5.cell (j := 3) rfl
      have jj0 := hB5.frozen 0
      have jj1 := hB5.frozen 1
      have jj2 := hB5.frozen 2
      have jj3 := hB5.frozen 3
      have Hb5 := hide hb5
      have Hz5 := hide hz5
      have Hsb := hide hsb
      clear y0 y1 q0 q1 q2 v0 v1 v2 v3 hca hS0 HSa HS5 hba hBa hza i0 i1 i2 i3 j0 j1 j2 j3 hF5 Hwa Hw5 hb5
      by_cases hkt : (k : Int) = torn
      · have u1 : ((k : Int) == torn) = true := by simp [hkt]
        rw [if_pos hkt, if_pos hkt] at HST
        clear hkt
        obtain ⟨C, hC⟩ : ∃ C : Nat, min (max cut 0) (S : Int) = (C : Int) := ⟨(min (max cut 0) (S : Int)).toNat, by omega⟩
        have hCS : C ≤ S := by omega
        go_wp2_with fail
        have hS0 : w5.drew.cell? ⟨gb, 2, none⟩ = some (.int .i64 cut) ∧ w5.drew.cell? ⟨t, 0, none⟩ = some (.int .i64 (S : Int)) := ⟨q25, y05⟩
        refine wp_region_held_drew (S := fun Z => Z.cell? ⟨gb, 2, none⟩ = some (.int .i64 cut) ∧ Z.cell? ⟨t, 0, none⟩ = some (.int .i64 (S : Int))) (by kernel_rfl) hS0 (fun _ => ?_)
        refine wpAnyH_take (fuel := 8) (i := 0) (v := .pointer (some ⟨gb, 2, none⟩)) rfl (by kernel_rfl) (by kernel_rfl) (by kernel_rfl) (fun _ _ _ h => h) (Or.inl ⟨by rfl, fun Z hZ => ?_⟩) hS0 ?_
        · obtain ⟨z1, z2⟩ := hZ
          go_simp
        refine wpAnyH_take (fuel := 7) (i := 1) (v := .int .i64 cut) rfl (by kernel_rfl) (by kernel_rfl) (by kernel_rfl) (fun _ _ _ h => h) (Or.inl ⟨by rfl, fun Z hZ => ?_⟩) hS0 ?_
        · obtain ⟨z1, z2⟩ := hZ
          go_simp
        refine wpAnyH_take (fuel := 6) (i := 3) (v := .pointer (some ⟨t, 0, none⟩)) rfl (by kernel_rfl) (by kernel_rfl) (by kernel_rfl) (fun _ _ _ h => h) (Or.inl ⟨by rfl, fun Z hZ => ?_⟩) hS0 ?_
        · obtain ⟨z1, z2⟩ := hZ
          go_simp
        refine wpAnyH_take (fuel := 5) (i := 4) (v := .pointer (some ⟨t, 0, none⟩)) rfl (by kernel_rfl) (by kernel_rfl) (by kernel_rfl) (fun _ _ _ h => h) (Or.inl ⟨by rfl, fun Z hZ => ?_⟩) hS0 ?_
        · obtain ⟨z1, z2⟩ := hZ
          go_simp
        refine wpAnyH_take (fuel := 4) (i := 5) (v := .pointer (some ⟨t, 0, none⟩)) rfl (by kernel_rfl) (by kernel_rfl) (by kernel_rfl) (fun _ _ _ h => h) (Or.inl ⟨by rfl, fun Z hZ => ?_⟩) hS0 ?_
        · obtain ⟨z1, z2⟩ := hZ
          go_simp
        refine wpAnyH_take (fuel := 3) (i := 6) (v := .int .i64 (S : Int)) rfl (by kernel_rfl) (by kernel_rfl) (by kernel_rfl) (fun _ _ _ h => h) (Or.inl ⟨by rfl, fun Z hZ => ?_⟩) hS0 ?_
        · obtain ⟨z1, z2⟩ := hZ
          go_simp
        refine all_one (fuel := 2) (i := 2) (by kernel_rfl) rfl rfl (fun Kk hK => ?_)
        go_simp
        refine hK _ _ ⟨hS0, ?_⟩
        clear hK Kk
        refine all_one (fuel := 1) (i := 7) (by kernel_rfl) rfl rfl (fun Kk hK => ?_)
        go_simp
        refine hK _ _ ⟨hS0, ?_⟩
        clear hK Kk
        refine all_one (fuel := 0) (i := 8) (by kernel_rfl) rfl rfl (fun Kk hK => ?_)
        go_simp
        refine hK _ _ ⟨hS0, ?_⟩
        clear hK Kk
        refine wpAnyH_done (by kernel_rfl) ?_ _
        try rw [hC]
        cases bd with
        | true =>
          rw [if_pos rfl] at HST
          clear hS0
          go_wp2_with fail
          obtain ⟨wc, hwc⟩ : ∃ y, ((((w5).setCell ⟨sb, 1, none⟩ (.bool false)).setCell ⟨sb, 2, none⟩ (.slice none 0 0)).drew).drew = y := ⟨_, rfl⟩
          have hBc : Blk wc sb [.slice A1 n1 c1, .bool false, .slice none 0 0, .bool true] 93 := by rw [← hwc]; exact ((hB5.set 1 (.bool false)).set 2 (.slice none 0 0))
          have hFc : Fr (fun x => x = sb) (w5) wc := by rw [← hwc]; exact (((Fr.refl (fun x => x = sb) (w5)).trans (Fr.set (X := fun x => x = sb) _ ⟨sb, 1, none⟩ _ rfl)).trans (Fr.set (X := fun x => x = sb) _ ⟨sb, 2, none⟩ _ rfl)).drew.drew
          have hbc : Below wr.heap.size wr wc := hFc.below (Hb5.out) (Hb5.out).size (fun x hx => by have := Hsb.out; omega)
          have hSc : wc.cell? ⟨t, 1, none⟩ = some (.slice (some ⟨f, 0, none⟩) N cb) ∧ wc.cell? ⟨g, k, none⟩ = some (.int .i64 (i : Int)) ∧ wc.cell? ⟨sb, 0, none⟩ = some (.slice A1 n1 c1) ∧ wc.cell? ⟨sb, 1, none⟩ = some (.bool false) ∧ wc.cell? ⟨sb, 2, none⟩ = some (.slice none 0 0) ∧ wc.cell? ⟨sb, 3, none⟩ = some (.bool true) := ⟨(HSt.out _ hbc).1, (HSt.out _ hbc).2.1, hBc.cell (j := 0) rfl, hBc.cell (j := 1) rfl, hBc.cell (j := 2) rfl, hBc.cell (j := 3) rfl⟩
          obtain ⟨hP, hPF⟩ := HD.out.lay4 hbc HIN.out (A := A1) (n := n1) (c := c1) (b := fi) (z := true) (by rw [HS.out]; exact hfl) (Hbn.out.1) (Hbn.out.2.1) (Hbn.out.2.2.1) (Hbn.out.2.2.2.1.below hbc) (Hbn.out.2.2.2.2)
          have hrow := HD.out.below hbc
          have hj0 := hrow.row.frozen (i * 4)
          have hj1 := hrow.row.frozen (i * 4 + 1)
          have hj2 := hrow.row.frozen (i * 4 + 2)
          have hj3 := hrow.row.frozen (i * 4 + 3)
          obtain ⟨_, _, _, _, _, _, r0, r1, r2, r3, _⟩ := hrow.at_ HIN.out
          obtain ⟨wf, hwf⟩ : ∃ y, (((wc.setCell ⟨f, i * 4, none⟩ (.slice A1 n1 c1)).setCell ⟨f, i * 4 + 1, none⟩ (.bool false)).setCell ⟨f, i * 4 + 2, none⟩ (.slice none 0 0)).setCell ⟨f, i * 4 + 3, none⟩ (.bool true) = y := ⟨_, rfl⟩
          have hwf4 : w4 wc f i (.slice A1 n1 c1) (.bool false) (.slice none 0 0) (.bool true) = wf := hwf
          rw [hwf4] at hP hPF
          have hFf : Fr (fun x => x = f) wc wf := by
            rw [← hwf]
            exact (((Fr.set (X := fun x => x = f) wc ⟨f, i * 4, none⟩ _ rfl).trans (Fr.set (X := fun x => x = f) _ ⟨f, i * 4 + 1, none⟩ _ rfl)).trans (Fr.set (X := fun x => x = f) _ ⟨f, i * 4 + 2, none⟩ _ rfl)).trans (Fr.set (X := fun x => x = f) _ ⟨f, i * 4 + 3, none⟩ _ rfl)
          have hnt : t ≠ f := HD.out.ne
          have hsbf : sb ≠ f := by have := Hsb.out; omega
          have hgf : g ≠ f := by omega
          have hSf : wf.cell? ⟨t, 1, none⟩ = some (.slice (some ⟨f, 0, none⟩) N cb) ∧ wf.cell? ⟨g, k, none⟩ = some (.int .i64 (i : Int)) ∧ wf.cell? ⟨sb, 0, none⟩ = some (.slice A1 n1 c1) ∧ wf.cell? ⟨sb, 1, none⟩ = some (.bool false) ∧ wf.cell? ⟨sb, 2, none⟩ = some (.slice none 0 0) ∧ wf.cell? ⟨sb, 3, none⟩ = some (.bool true) := ⟨hFf.cell hSc.1 hnt, hFf.cell hSc.2.1 hgf, hFf.cell hSc.2.2.1 hsbf, hFf.cell hSc.2.2.2.1 hsbf, hFf.cell hSc.2.2.2.2.1 hsbf, hFf.cell hSc.2.2.2.2.2 hsbf⟩
          have HP := hide hP
          have HF9 := hide (HFk.out.trans hPF)
          have Hr9 := hide (Hr.out.fr hPF (fun _ a ha hx => by injection ha with ha; subst ha; rcases hx with h | h <;> have h' : g = _ := h <;> omega))
          have HG9 := hide (HG.out.fr hPF hnG)
          have HK9 := hide (HKk.out.fr hPF (fun hne x hx => HK.out hne x hx))
          have Hwf := hide hwf
          have HSc := hide hSc
          have HSf := hide hSf
          clear hP hPF hBc hFc hbc hrow hwf hwf4 hFf hSc hSf hnt hsbf hgf
          have hS0 : ((((w5).setCell ⟨sb, 1, none⟩ (.bool false)).setCell ⟨sb, 2, none⟩ (.slice none 0 0)).drew).drew.cell? ⟨t, 1, none⟩ = some (.slice (some ⟨f, 0, none⟩) N cb) ∧ ((((w5).setCell ⟨sb, 1, none⟩ (.bool false)).setCell ⟨sb, 2, none⟩ (.slice none 0 0)).drew).drew.cell? ⟨g, k, none⟩ = some (.int .i64 (i : Int)) ∧ ((((w5).setCell ⟨sb, 1, none⟩ (.bool false)).setCell ⟨sb, 2, none⟩ (.slice none 0 0)).drew).drew.cell? ⟨sb, 0, none⟩ = some (.slice A1 n1 c1) ∧ ((((w5).setCell ⟨sb, 1, none⟩ (.bool false)).setCell ⟨sb, 2, none⟩ (.slice none 0 0)).drew).drew.cell? ⟨sb, 1, none⟩ = some (.bool false) ∧ ((((w5).setCell ⟨sb, 1, none⟩ (.bool false)).setCell ⟨sb, 2, none⟩ (.slice none 0 0)).drew).drew.cell? ⟨sb, 2, none⟩ = some (.slice none 0 0) ∧ ((((w5).setCell ⟨sb, 1, none⟩ (.bool false)).setCell ⟨sb, 2, none⟩ (.slice none 0 0)).drew).drew.cell? ⟨sb, 3, none⟩ = some (.bool true) := by rw [hwc]; exact HSc.out
          refine wp_region_held_drew (S := fun Z => Z.cell? ⟨t, 1, none⟩ = some (.slice (some ⟨f, 0, none⟩) N cb) ∧ Z.cell? ⟨g, k, none⟩ = some (.int .i64 (i : Int)) ∧ Z.cell? ⟨sb, 0, none⟩ = some (.slice A1 n1 c1) ∧ Z.cell? ⟨sb, 1, none⟩ = some (.bool false) ∧ Z.cell? ⟨sb, 2, none⟩ = some (.slice none 0 0) ∧ Z.cell? ⟨sb, 3, none⟩ = some (.bool true)) (by kernel_rfl) hS0 (fun _ => ?_)
          clear hS0
          rw [hwc]
          refine wpAnyH_take (fuel := 10) (i := 0) (v := .pointer (some ⟨t, 0, none⟩)) rfl (by kernel_rfl) (by kernel_rfl) (by kernel_rfl) (fun _ _ _ h => h) (Or.inl ⟨by rfl, fun Z hZ => ?_⟩) HSc.out ?_
          · obtain ⟨z1, z2, z3, z4, z5, z6⟩ := hZ
            go_simp
          refine wpAnyH_take (fuel := 9) (i := 1) (v := .pointer (some ⟨t, 0, none⟩)) rfl (by kernel_rfl) (by kernel_rfl) (by kernel_rfl) (fun _ _ _ h => h) (Or.inl ⟨by rfl, fun Z hZ => ?_⟩) HSc.out ?_
          · obtain ⟨z1, z2, z3, z4, z5, z6⟩ := hZ
            go_simp
          refine wpAnyH_take (fuel := 8) (i := 2) (v := .pointer (some ⟨t, 1, none⟩)) rfl (by kernel_rfl) (by kernel_rfl) (by kernel_rfl) (fun _ _ _ h => h) (Or.inl ⟨by rfl, fun Z hZ => ?_⟩) HSc.out ?_
          · obtain ⟨z1, z2, z3, z4, z5, z6⟩ := hZ
            go_simp
          refine wpAnyH_take (fuel := 7) (i := 3) (v := .slice (some ⟨f, 0, none⟩) N cb) rfl (by kernel_rfl) (by kernel_rfl) (by kernel_rfl) (fun _ _ _ h => h) (Or.inl ⟨by rfl, fun Z hZ => ?_⟩) HSc.out ?_
          · obtain ⟨z1, z2, z3, z4, z5, z6⟩ := hZ
            go_simp
          refine wpAnyH_take (fuel := 6) (i := 4) (v := .slice (some ⟨g, 0, none⟩) m c) rfl (by kernel_rfl) (by kernel_rfl) (by kernel_rfl) (fun _ _ _ h => h) (Or.inl ⟨by rfl, fun Z hZ => ?_⟩) HSc.out ?_
          · obtain ⟨z1, z2, z3, z4, z5, z6⟩ := hZ
            go_simp
          refine wpAnyH_take (fuel := 5) (i := 5) (v := .int .i64 (k : Int)) rfl (by kernel_rfl) (by kernel_rfl) (by kernel_rfl) (fun _ _ _ h => h) (Or.inl ⟨by rfl, fun Z hZ => ?_⟩) HSc.out ?_
          · obtain ⟨z1, z2, z3, z4, z5, z6⟩ := hZ
            go_simp
          refine wpAnyH_take (fuel := 4) (i := 6) (v := .pointer (some ⟨g, k, none⟩)) rfl (by kernel_rfl) (by kernel_rfl) (by kernel_rfl) (fun _ _ _ h => h) (Or.inl ⟨by rfl, fun Z hZ => ?_⟩) HSc.out ?_
          · obtain ⟨z1, z2, z3, z4, z5, z6⟩ := hZ
            go_simp
          refine wpAnyH_take (fuel := 3) (i := 7) (v := .int .i64 (i : Int)) rfl (by kernel_rfl) (by kernel_rfl) (by kernel_rfl) (fun _ _ _ h => h) (Or.inl ⟨by rfl, fun Z hZ => ?_⟩) HSc.out ?_
          · obtain ⟨z1, z2, z3, z4, z5, z6⟩ := hZ
            go_simp
          refine wpAnyH_take (fuel := 2) (i := 8) (v := .agg #[.slice A1 n1 c1, .bool false, .slice none 0 0, .bool true]) rfl (by kernel_rfl) (by kernel_rfl) (by kernel_rfl) (fun _ _ _ h => h) (Or.inl ⟨by rfl, fun Z hZ => ?_⟩) HSc.out ?_
          · obtain ⟨z1, z2, z3, z4, z5, z6⟩ := hZ
            go_simp
          refine wpAnyH_take (fuel := 1) (i := 9) (v := .pointer (some ⟨f, i * 4, none⟩)) rfl (by kernel_rfl) (by kernel_rfl) (by kernel_rfl) (fun _ _ _ h => h) (Or.inl ⟨by rfl, fun Z hZ => ?_⟩) HSc.out ?_
          · obtain ⟨z1, z2, z3, z4, z5, z6⟩ := hZ
            go_simp
          refine all_one (fuel := 0) (i := 10) (by kernel_rfl) rfl rfl (fun Kk hK => ?_)
          go_simp
          try rw [Hwf.out]
          refine hK _ _ ⟨HSf.out, ?_⟩
          clear hK Kk
          refine wpAnyH_done (by kernel_rfl) ?_ _
          go_wp2
          go_roundw
          case rel => exact ⟨k + 1, by go_num, by omega, by rw [HST.out]; exact HP.out, HF9.out, Hr9.out, HG9.out, HK9.out⟩
          case measure => simp [RowKit.intOf]; omega
        | false =>
          rw [if_neg (by decide)] at HST
          have hn1S : n1 ≤ S ∧ S ≤ n1 := by have := Hbn.out.1; omega
          have hm1S : m1 ≤ S ∧ S ≤ m1 := by have := HBn.out.1; omega
          have hnc1 : n1 ≤ c1 := Hbn.out.2.1
          have hme1 : m1 ≤ e1 := HBn.out.2.2.2.1
          have hCe : C ≤ e1 := by omega
          have hCn : C ≤ n1 := by omega
          have hCc : C ≤ c1 := by omega
          have hCm : C ≤ m1 := by omega
          have hTB : tornB S bs fi cut = bs.take C ++ fi.drop C := by unfold tornB; rw [hC]; rfl
          have hsbE : wr.heap.size = sb := Hsb.out
          obtain ⟨wd, hwd⟩ : ∃ y, w5.drew.drew = y := ⟨_, rfl⟩
          have hbd : Below wr.heap.size wr wd := by rw [← hwd]; exact Hb5.out.drew.drew
          have hzd : wd.heap.size = sb + 1 := by rw [← hwd]; exact Hz5.out
          have hBd : Blk wd sb [.slice A1 n1 c1, .bool true, .slice B1 m1 e1, .bool false] 93 := by rw [← hwd]; exact hB5
          obtain ⟨wz, hwz⟩ : ∃ y, wd.alloc (.cells #[] 5) = y := ⟨_, rfl⟩
          have hE : wz.ownsRow (sb + 1) 5 1 (.slice (some ⟨sb + 1, 0, none⟩) 0 0) 0 [] := by
            have := empty_own wd (sb + 1) (by omega)
            rw [hzd] at this
            rw [← hwz]; exact this
          have hbdz : Below (sb + 1) wd wz := by rw [← hwz]; exact (Below.refl _ _).alloc (by omega) _
          have hzz : wz.heap.size = sb + 2 := by rw [← hwz, World.size_alloc, hzd]
          have hBW : ∀ W, Below (sb + 1) wd W → Blk W sb [.slice A1 n1 c1, .bool true, .slice B1 m1 e1, .bool false] 93 := fun W hW => hBd.below (by rw [hzd]; exact hW)
          have hRW : ∀ W, Below (sb + 1) wd W → Below wr.heap.size wr W := fun W hW => hbd.trans (hW.mono (by omega))
          have hnew : ∀ W, Below (sb + 1) wd W → Rd W B1 (bys (bs.take C)) := fun W hW => by rw [bys_take]; exact (HBn.out.2.1.below (hRW W hW)).take C
          have hold : ∀ W, Below (sb + 1) wd W → Rd W (cutA A1 c1 C 1) (bys (fi.drop C)) := fun W hW => by
            have := (Hbn.out.2.2.2.1.below (hRW W hW)).cutA (n := n1) (k := C) (cap := c1) (by rw [bys_length, Hbn.out.1]; exact Nat.le_refl _) (by omega) hnc1
            rw [bys_drop]; exact this
          have HBW := hide hBW
          have HRW := hide hRW
          have Hnew := hide hnew
          have Hold := hide hold
          have d0 := hBd.cell (j := 0) rfl
          have d2 := hBd.cell (j := 2) rfl
          have z0 := (hBW _ hbdz).cell (j := 0) rfl
          have z2 := (hBW _ hbdz).cell (j := 2) rfl
          have Hwz := hide hwz
          clear hBW hRW hnew hold hwz hBd hS0
          go_wp2_with fail
          have hS0 : w5.drew.drew.cell? ⟨sb, 2, none⟩ = some (.slice B1 m1 e1) := by rw [hwd]; exact d2
          refine wp_region_held_drew (S := fun Z => Z.cell? ⟨sb, 2, none⟩ = some (.slice B1 m1 e1)) (by kernel_rfl) hS0 (fun _ => ?_)
          clear hS0
          rw [hwd]
          refine wpAnyH_take (fuel := 12) (i := 1) (v := .pointer (some ⟨sb, 2, none⟩)) rfl (by kernel_rfl) (by kernel_rfl) (by kernel_rfl) (fun _ _ _ h => h) (Or.inl ⟨by rfl, fun Z hZ => ?_⟩) d2 ?_
          · have z9 := hZ
            go_simp
          refine wpAnyH_take (fuel := 11) (i := 2) (v := .slice B1 m1 e1) rfl (by kernel_rfl) (by kernel_rfl) (by kernel_rfl) (fun _ _ _ h => h) (Or.inl ⟨by rfl, fun Z hZ => ?_⟩) d2 ?_
          · have z9 := hZ
            go_simp
          refine wpAnyH_take (fuel := 10) (i := 3) (v := .int .i64 (C : Int)) rfl (by kernel_rfl) (by kernel_rfl) (by kernel_rfl) (fun _ _ _ h => h) (Or.inl ⟨by rfl, fun Z hZ => ?_⟩) d2 ?_
          · have z9 := hZ
            go_simp
          refine wpAnyH_take (fuel := 9) (i := 4) (v := .slice B1 C e1) rfl (by kernel_rfl) (by kernel_rfl) (by kernel_rfl) (fun _ _ _ h => h) (Or.inl ⟨by rfl, fun Z hZ => ?_⟩) d2 ?_
          · have z9 := hZ
            go_simp
          refine wpAnyH_take (fuel := 8) (i := 6) (v := .pointer (some ⟨sb, 0, none⟩)) rfl (by kernel_rfl) (by kernel_rfl) (by kernel_rfl) (fun _ _ _ h => h) (Or.inl ⟨by rfl, fun Z hZ => ?_⟩) d2 ?_
          · have z9 := hZ
            go_simp
          refine wpAnyH_take (fuel := 7) (i := 8) (v := .int .i64 (C : Int)) rfl (by kernel_rfl) (by kernel_rfl) (by kernel_rfl) (fun _ _ _ h => h) (Or.inl ⟨by rfl, fun Z hZ => ?_⟩) d2 ?_
          · have z9 := hZ
            go_simp
          refine all_two (fuel := 6) (i := 0) (j := 7) (by kernel_rfl) rfl rfl rfl rfl (fun Kk hK => ?_) (fun Kk hK => ?_)
          · go_simp
            try rw [hzd]
            try rw [Hwz.out]
            refine hK _ _ ⟨z2, ?_⟩
            clear hK Kk
            refine all_two (fuel := 5) (i := 5) (j := 7) (by kernel_rfl) rfl rfl rfl rfl (fun Kk hK => ?_) (fun Kk hK => ?_)
            · refine oper_own rfl tBytes (base := sb + 1) (e := 5) (by rfl) hE (A := B1) (m := C) (c := e1) (by rfl) (by rw [bys_length, List.length_take]; omega) (Hnew.out _ hbdz) (bys_one _) (by omega) (by omega) (by omega) ?_
              intro v1 w3 hO1 hg1 hv1
              rw [Nat.zero_add, List.nil_append] at hO1
              have hb3 : Below (sb + 1) wd w3 := hbdz.grown hg1 (by omega) (fun k hk => by simp [Value.ownBlock] at hk; omega)
              have hz3 := hg1.size
              have t0 := (HBW.out _ hb3).cell (j := 0) rfl
              have t2 := (HBW.out _ hb3).cell (j := 2) rfl
              obtain ⟨A3, c3, rfl, _⟩ := own_out hO1
              refine hK _ _ ⟨t2, ?_⟩
              clear hK Kk
              refine all_one (fuel := 4) (i := 7) (by kernel_rfl) rfl rfl (fun Kk hK => ?_)
              have xx := t0
              go_simp
              refine hK _ _ ⟨t2, ?_⟩
              clear hK Kk xx
              refine wpAnyH_take (fuel := 3) (i := 9) (v := .slice (cutA A1 c1 C 1) (n1 - C) (c1 - C)) rfl (by kernel_rfl) (by kernel_rfl) (by kernel_rfl) (fun _ _ _ h => h) (Or.inl ⟨by rfl, fun Z hZ => ?_⟩) t2 ?_
              · go_simp
              refine all_one (fuel := 2) (i := 10) (by kernel_rfl) rfl rfl (fun Kk hK => ?_)
              refine oper_own rfl tBytes (base := sb + 1) (e := 5) (by rfl) hO1 (A := cutA A1 c1 C 1) (m := n1 - C) (c := c1 - C) (by rfl) (by rw [bys_length, List.length_drop]; omega) (Hold.out _ hb3) (bys_one _) (by omega) (by omega) (by omega) ?_
              intro v2 w4' hO2 hg2 hv2
              rw [show C + (n1 - C) = S by omega, ← bys_append] at hO2
              have lo1 := own_out hO1
              have hb4 : Below (sb + 1) wd w4' := hb3.grown hg2 (by omega) (fun k hk => by
                obtain ⟨A0, c0, h0, _, _, _, _, hlo⟩ := lo1
                injection h0 with h0 _ _
                cases A3 with
                | none => simp [Value.ownBlock] at hk
                | some a3 => simp [Value.ownBlock] at hk; have := (hlo a3 h0.symm).1; omega)
              obtain ⟨A4, c4, rfl, _, hc4, hcm4, hr4, ha4⟩ := own_out hO2
              have hB4 := HBW.out _ hb4
              have hR4 := HRW.out _ hb4
              have hz4 := hg2.size
              have s0 := hB4.cell (j := 0) rfl
              have s1 := hB4.cell (j := 1) rfl
              have s2 := hB4.cell (j := 2) rfl
              have s3 := hB4.cell (j := 3) rfl
              have js0 := hB4.frozen 0
              have js1 := hB4.frozen 1
              have js2 := hB4.frozen 2
              refine hK _ _ ⟨s2, ?_⟩
              clear hK Kk
              refine all_one (fuel := 1) (i := 11) (by kernel_rfl) rfl rfl (fun Kk hK => ?_)
              go_simp
              refine hK _ _ ⟨s2, ?_⟩
              clear hK Kk
              refine all_one (fuel := 0) (i := 12) (by kernel_rfl) rfl rfl (fun Kk hK => ?_)
              go_simp
              refine hK _ _ ⟨(hB4.set 0 _).cell (j := 2) rfl, ?_⟩
              clear hK Kk
              refine wpAnyH_done (by kernel_rfl) ?_ _
              rw [HS.out, hTB] at HST
              have hl4 : (bs.take C ++ fi.drop C).length = S := by rw [List.length_append, List.length_take, List.length_drop]; omega
              obtain ⟨nb, hnb⟩ : ∃ nb, bs.take C ++ fi.drop C = nb := ⟨_, rfl⟩
              rw [hnb] at HST hl4 hr4
              have hc4' : c4 ≤ 9223372036854775807 := by unfold maxLen at hcm4; omega
              have hlo4 : ∀ a, A4 = some a → sb + 1 ≤ a.block := fun a ha => (ha4 a ha).1
              have hQ4 : ∀ a, A4 = some a → Q a.block := fun a ha => HQ.out _ (by have := hlo4 a ha; have := Hg.out; omega)
              have hr4' : ∀ wc, Fr (fun x => x = sb) w4' wc → Rd wc A4 (bys nb) := fun wc hF => hr4.fr hF (fun _ a ha hx => by have := hlo4 a ha; have hx' : a.block = sb := hx; omega)
              clear hO1 hO2 hg1 hg2 hv1 hv2 hr4 ha4 lo1 hE hnb hTB
              go_wp2_with fail
              obtain ⟨wc, hwc⟩ : ∃ y, (((((w4').setCell ⟨sb, 0, none⟩ (.slice A4 S c4)).setCell ⟨sb, 1, none⟩ (.bool false)).setCell ⟨sb, 2, none⟩ (.slice none 0 0))).drew = y := ⟨_, rfl⟩
              have hBc : Blk wc sb [.slice A4 S c4, .bool false, .slice none 0 0, .bool false] 93 := by rw [← hwc]; exact (((hB4.set 0 (.slice A4 S c4)).set 1 (.bool false)).set 2 (.slice none 0 0))
              have hFc : Fr (fun x => x = sb) (w4') wc := by rw [← hwc]; exact ((((Fr.refl (fun x => x = sb) (w4')).trans (Fr.set (X := fun x => x = sb) _ ⟨sb, 0, none⟩ _ rfl)).trans (Fr.set (X := fun x => x = sb) _ ⟨sb, 1, none⟩ _ rfl)).trans (Fr.set (X := fun x => x = sb) _ ⟨sb, 2, none⟩ _ rfl)).drew
              have hbc : Below wr.heap.size wr wc := hFc.below (hR4) (hR4).size (fun x hx => by have := Hsb.out; omega)
              have hSc : wc.cell? ⟨t, 1, none⟩ = some (.slice (some ⟨f, 0, none⟩) N cb) ∧ wc.cell? ⟨g, k, none⟩ = some (.int .i64 (i : Int)) ∧ wc.cell? ⟨sb, 0, none⟩ = some (.slice A4 S c4) ∧ wc.cell? ⟨sb, 1, none⟩ = some (.bool false) ∧ wc.cell? ⟨sb, 2, none⟩ = some (.slice none 0 0) ∧ wc.cell? ⟨sb, 3, none⟩ = some (.bool false) := ⟨(HSt.out _ hbc).1, (HSt.out _ hbc).2.1, hBc.cell (j := 0) rfl, hBc.cell (j := 1) rfl, hBc.cell (j := 2) rfl, hBc.cell (j := 3) rfl⟩
              obtain ⟨hP, hPF⟩ := HD.out.lay4 hbc HIN.out (A := A4) (n := S) (c := c4) (b := nb) (z := false) (by rw [HS.out]; exact hl4) (hl4) (hc4) (hc4') (hr4' _ hFc) (hQ4)
              have hrow := HD.out.below hbc
              have hj0 := hrow.row.frozen (i * 4)
              have hj1 := hrow.row.frozen (i * 4 + 1)
              have hj2 := hrow.row.frozen (i * 4 + 2)
              have hj3 := hrow.row.frozen (i * 4 + 3)
              obtain ⟨_, _, _, _, _, _, r0, r1, r2, r3, _⟩ := hrow.at_ HIN.out
              obtain ⟨wf, hwf⟩ : ∃ y, (((wc.setCell ⟨f, i * 4, none⟩ (.slice A4 S c4)).setCell ⟨f, i * 4 + 1, none⟩ (.bool false)).setCell ⟨f, i * 4 + 2, none⟩ (.slice none 0 0)).setCell ⟨f, i * 4 + 3, none⟩ (.bool false) = y := ⟨_, rfl⟩
              have hwf4 : w4 wc f i (.slice A4 S c4) (.bool false) (.slice none 0 0) (.bool false) = wf := hwf
              rw [hwf4] at hP hPF
              have hFf : Fr (fun x => x = f) wc wf := by
                rw [← hwf]
                exact (((Fr.set (X := fun x => x = f) wc ⟨f, i * 4, none⟩ _ rfl).trans (Fr.set (X := fun x => x = f) _ ⟨f, i * 4 + 1, none⟩ _ rfl)).trans (Fr.set (X := fun x => x = f) _ ⟨f, i * 4 + 2, none⟩ _ rfl)).trans (Fr.set (X := fun x => x = f) _ ⟨f, i * 4 + 3, none⟩ _ rfl)
              have hnt : t ≠ f := HD.out.ne
              have hsbf : sb ≠ f := by have := Hsb.out; omega
              have hgf : g ≠ f := by omega
              have hSf : wf.cell? ⟨t, 1, none⟩ = some (.slice (some ⟨f, 0, none⟩) N cb) ∧ wf.cell? ⟨g, k, none⟩ = some (.int .i64 (i : Int)) ∧ wf.cell? ⟨sb, 0, none⟩ = some (.slice A4 S c4) ∧ wf.cell? ⟨sb, 1, none⟩ = some (.bool false) ∧ wf.cell? ⟨sb, 2, none⟩ = some (.slice none 0 0) ∧ wf.cell? ⟨sb, 3, none⟩ = some (.bool false) := ⟨hFf.cell hSc.1 hnt, hFf.cell hSc.2.1 hgf, hFf.cell hSc.2.2.1 hsbf, hFf.cell hSc.2.2.2.1 hsbf, hFf.cell hSc.2.2.2.2.1 hsbf, hFf.cell hSc.2.2.2.2.2 hsbf⟩
              have HP := hide hP
              have HF9 := hide (HFk.out.trans hPF)
              have Hr9 := hide (Hr.out.fr hPF (fun _ a ha hx => by injection ha with ha; subst ha; rcases hx with h | h <;> have h' : g = _ := h <;> omega))
              have HG9 := hide (HG.out.fr hPF hnG)
              have HK9 := hide (HKk.out.fr hPF (fun hne x hx => HK.out hne x hx))
              have Hwf := hide hwf
              have HSc := hide hSc
              have HSf := hide hSf
              clear hP hPF hBc hFc hbc hrow hwf hwf4 hFf hSc hSf hnt hsbf hgf
              have hS0 : (((((w4').setCell ⟨sb, 0, none⟩ (.slice A4 S c4)).setCell ⟨sb, 1, none⟩ (.bool false)).setCell ⟨sb, 2, none⟩ (.slice none 0 0))).drew.cell? ⟨t, 1, none⟩ = some (.slice (some ⟨f, 0, none⟩) N cb) ∧ (((((w4').setCell ⟨sb, 0, none⟩ (.slice A4 S c4)).setCell ⟨sb, 1, none⟩ (.bool false)).setCell ⟨sb, 2, none⟩ (.slice none 0 0))).drew.cell? ⟨g, k, none⟩ = some (.int .i64 (i : Int)) ∧ (((((w4').setCell ⟨sb, 0, none⟩ (.slice A4 S c4)).setCell ⟨sb, 1, none⟩ (.bool false)).setCell ⟨sb, 2, none⟩ (.slice none 0 0))).drew.cell? ⟨sb, 0, none⟩ = some (.slice A4 S c4) ∧ (((((w4').setCell ⟨sb, 0, none⟩ (.slice A4 S c4)).setCell ⟨sb, 1, none⟩ (.bool false)).setCell ⟨sb, 2, none⟩ (.slice none 0 0))).drew.cell? ⟨sb, 1, none⟩ = some (.bool false) ∧ (((((w4').setCell ⟨sb, 0, none⟩ (.slice A4 S c4)).setCell ⟨sb, 1, none⟩ (.bool false)).setCell ⟨sb, 2, none⟩ (.slice none 0 0))).drew.cell? ⟨sb, 2, none⟩ = some (.slice none 0 0) ∧ (((((w4').setCell ⟨sb, 0, none⟩ (.slice A4 S c4)).setCell ⟨sb, 1, none⟩ (.bool false)).setCell ⟨sb, 2, none⟩ (.slice none 0 0))).drew.cell? ⟨sb, 3, none⟩ = some (.bool false) := by rw [hwc]; exact HSc.out
              refine wp_region_held_drew (S := fun Z => Z.cell? ⟨t, 1, none⟩ = some (.slice (some ⟨f, 0, none⟩) N cb) ∧ Z.cell? ⟨g, k, none⟩ = some (.int .i64 (i : Int)) ∧ Z.cell? ⟨sb, 0, none⟩ = some (.slice A4 S c4) ∧ Z.cell? ⟨sb, 1, none⟩ = some (.bool false) ∧ Z.cell? ⟨sb, 2, none⟩ = some (.slice none 0 0) ∧ Z.cell? ⟨sb, 3, none⟩ = some (.bool false)) (by kernel_rfl) hS0 (fun _ => ?_)
              clear hS0
              rw [hwc]
              refine wpAnyH_take (fuel := 10) (i := 0) (v := .pointer (some ⟨t, 0, none⟩)) rfl (by kernel_rfl) (by kernel_rfl) (by kernel_rfl) (fun _ _ _ h => h) (Or.inl ⟨by rfl, fun Z hZ => ?_⟩) HSc.out ?_
              · obtain ⟨z1, z2, z3, z4, z5, z6⟩ := hZ
                go_simp
              refine wpAnyH_take (fuel := 9) (i := 1) (v := .pointer (some ⟨t, 0, none⟩)) rfl (by kernel_rfl) (by kernel_rfl) (by kernel_rfl) (fun _ _ _ h => h) (Or.inl ⟨by rfl, fun Z hZ => ?_⟩) HSc.out ?_
              · obtain ⟨z1, z2, z3, z4, z5, z6⟩ := hZ
                go_simp
              refine wpAnyH_take (fuel := 8) (i := 2) (v := .pointer (some ⟨t, 1, none⟩)) rfl (by kernel_rfl) (by kernel_rfl) (by kernel_rfl) (fun _ _ _ h => h) (Or.inl ⟨by rfl, fun Z hZ => ?_⟩) HSc.out ?_
              · obtain ⟨z1, z2, z3, z4, z5, z6⟩ := hZ
                go_simp
              refine wpAnyH_take (fuel := 7) (i := 3) (v := .slice (some ⟨f, 0, none⟩) N cb) rfl (by kernel_rfl) (by kernel_rfl) (by kernel_rfl) (fun _ _ _ h => h) (Or.inl ⟨by rfl, fun Z hZ => ?_⟩) HSc.out ?_
              · obtain ⟨z1, z2, z3, z4, z5, z6⟩ := hZ
                go_simp
              refine wpAnyH_take (fuel := 6) (i := 4) (v := .slice (some ⟨g, 0, none⟩) m c) rfl (by kernel_rfl) (by kernel_rfl) (by kernel_rfl) (fun _ _ _ h => h) (Or.inl ⟨by rfl, fun Z hZ => ?_⟩) HSc.out ?_
              · obtain ⟨z1, z2, z3, z4, z5, z6⟩ := hZ
                go_simp
              refine wpAnyH_take (fuel := 5) (i := 5) (v := .int .i64 (k : Int)) rfl (by kernel_rfl) (by kernel_rfl) (by kernel_rfl) (fun _ _ _ h => h) (Or.inl ⟨by rfl, fun Z hZ => ?_⟩) HSc.out ?_
              · obtain ⟨z1, z2, z3, z4, z5, z6⟩ := hZ
                go_simp
              refine wpAnyH_take (fuel := 4) (i := 6) (v := .pointer (some ⟨g, k, none⟩)) rfl (by kernel_rfl) (by kernel_rfl) (by kernel_rfl) (fun _ _ _ h => h) (Or.inl ⟨by rfl, fun Z hZ => ?_⟩) HSc.out ?_
              · obtain ⟨z1, z2, z3, z4, z5, z6⟩ := hZ
                go_simp
              refine wpAnyH_take (fuel := 3) (i := 7) (v := .int .i64 (i : Int)) rfl (by kernel_rfl) (by kernel_rfl) (by kernel_rfl) (fun _ _ _ h => h) (Or.inl ⟨by rfl, fun Z hZ => ?_⟩) HSc.out ?_
              · obtain ⟨z1, z2, z3, z4, z5, z6⟩ := hZ
                go_simp
              refine wpAnyH_take (fuel := 2) (i := 8) (v := .agg #[.slice A4 S c4, .bool false, .slice none 0 0, .bool false]) rfl (by kernel_rfl) (by kernel_rfl) (by kernel_rfl) (fun _ _ _ h => h) (Or.inl ⟨by rfl, fun Z hZ => ?_⟩) HSc.out ?_
              · obtain ⟨z1, z2, z3, z4, z5, z6⟩ := hZ
                go_simp
              refine wpAnyH_take (fuel := 1) (i := 9) (v := .pointer (some ⟨f, i * 4, none⟩)) rfl (by kernel_rfl) (by kernel_rfl) (by kernel_rfl) (fun _ _ _ h => h) (Or.inl ⟨by rfl, fun Z hZ => ?_⟩) HSc.out ?_
              · obtain ⟨z1, z2, z3, z4, z5, z6⟩ := hZ
                go_simp
              refine all_one (fuel := 0) (i := 10) (by kernel_rfl) rfl rfl (fun Kk hK => ?_)
              go_simp
              try rw [Hwf.out]
              refine hK _ _ ⟨HSf.out, ?_⟩
              clear hK Kk
              refine wpAnyH_done (by kernel_rfl) ?_ _
              go_wp2
              go_roundw
              case rel => exact ⟨k + 1, by go_num, by omega, by rw [HST.out]; exact HP.out, HF9.out, Hr9.out, HG9.out, HK9.out⟩
              case measure => simp [RowKit.intOf]; omega
            · have xx := z0
              go_simp
              refine hK _ _ ⟨z2, ?_⟩
              clear hK Kk xx
              refine wpAnyH_take (fuel := 4) (i := 9) (v := .slice (cutA A1 c1 C 1) (n1 - C) (c1 - C)) rfl (by kernel_rfl) (by kernel_rfl) (by kernel_rfl) (fun _ _ _ h => h) (Or.inl ⟨by rfl, fun Z hZ => ?_⟩) z2 ?_
              · go_simp
              refine all_one (fuel := 3) (i := 5) (by kernel_rfl) rfl rfl (fun Kk hK => ?_)
              refine oper_own rfl tBytes (base := sb + 1) (e := 5) (by rfl) hE (A := B1) (m := C) (c := e1) (by rfl) (by rw [bys_length, List.length_take]; omega) (Hnew.out _ hbdz) (bys_one _) (by omega) (by omega) (by omega) ?_
              intro v1 w3 hO1 hg1 hv1
              rw [Nat.zero_add, List.nil_append] at hO1
              have hb3 : Below (sb + 1) wd w3 := hbdz.grown hg1 (by omega) (fun k hk => by simp [Value.ownBlock] at hk; omega)
              have hz3 := hg1.size
              have t0 := (HBW.out _ hb3).cell (j := 0) rfl
              have t2 := (HBW.out _ hb3).cell (j := 2) rfl
              obtain ⟨A3, c3, rfl, _⟩ := own_out hO1
              refine hK _ _ ⟨t2, ?_⟩
              clear hK Kk
              refine all_one (fuel := 2) (i := 10) (by kernel_rfl) rfl rfl (fun Kk hK => ?_)
              refine oper_own rfl tBytes (base := sb + 1) (e := 5) (by rfl) hO1 (A := cutA A1 c1 C 1) (m := n1 - C) (c := c1 - C) (by rfl) (by rw [bys_length, List.length_drop]; omega) (Hold.out _ hb3) (bys_one _) (by omega) (by omega) (by omega) ?_
              intro v2 w4' hO2 hg2 hv2
              rw [show C + (n1 - C) = S by omega, ← bys_append] at hO2
              have lo1 := own_out hO1
              have hb4 : Below (sb + 1) wd w4' := hb3.grown hg2 (by omega) (fun k hk => by
                obtain ⟨A0, c0, h0, _, _, _, _, hlo⟩ := lo1
                injection h0 with h0 _ _
                cases A3 with
                | none => simp [Value.ownBlock] at hk
                | some a3 => simp [Value.ownBlock] at hk; have := (hlo a3 h0.symm).1; omega)
              obtain ⟨A4, c4, rfl, _, hc4, hcm4, hr4, ha4⟩ := own_out hO2
              have hB4 := HBW.out _ hb4
              have hR4 := HRW.out _ hb4
              have hz4 := hg2.size
              have s0 := hB4.cell (j := 0) rfl
              have s1 := hB4.cell (j := 1) rfl
              have s2 := hB4.cell (j := 2) rfl
              have s3 := hB4.cell (j := 3) rfl
              have js0 := hB4.frozen 0
              have js1 := hB4.frozen 1
              have js2 := hB4.frozen 2
              refine hK _ _ ⟨s2, ?_⟩
              clear hK Kk
              refine all_one (fuel := 1) (i := 11) (by kernel_rfl) rfl rfl (fun Kk hK => ?_)
              go_simp
              refine hK _ _ ⟨s2, ?_⟩
              clear hK Kk
              refine all_one (fuel := 0) (i := 12) (by kernel_rfl) rfl rfl (fun Kk hK => ?_)
              go_simp
              refine hK _ _ ⟨(hB4.set 0 _).cell (j := 2) rfl, ?_⟩
              clear hK Kk
              refine wpAnyH_done (by kernel_rfl) ?_ _
              rw [HS.out, hTB] at HST
              have hl4 : (bs.take C ++ fi.drop C).length = S := by rw [List.length_append, List.length_take, List.length_drop]; omega
              obtain ⟨nb, hnb⟩ : ∃ nb, bs.take C ++ fi.drop C = nb := ⟨_, rfl⟩
              rw [hnb] at HST hl4 hr4
              have hc4' : c4 ≤ 9223372036854775807 := by unfold maxLen at hcm4; omega
              have hlo4 : ∀ a, A4 = some a → sb + 1 ≤ a.block := fun a ha => (ha4 a ha).1
              have hQ4 : ∀ a, A4 = some a → Q a.block := fun a ha => HQ.out _ (by have := hlo4 a ha; have := Hg.out; omega)
              have hr4' : ∀ wc, Fr (fun x => x = sb) w4' wc → Rd wc A4 (bys nb) := fun wc hF => hr4.fr hF (fun _ a ha hx => by have := hlo4 a ha; have hx' : a.block = sb := hx; omega)
              clear hO1 hO2 hg1 hg2 hv1 hv2 hr4 ha4 lo1 hE hnb hTB
              go_wp2_with fail
              obtain ⟨wc, hwc⟩ : ∃ y, (((((w4').setCell ⟨sb, 0, none⟩ (.slice A4 S c4)).setCell ⟨sb, 1, none⟩ (.bool false)).setCell ⟨sb, 2, none⟩ (.slice none 0 0))).drew = y := ⟨_, rfl⟩
              have hBc : Blk wc sb [.slice A4 S c4, .bool false, .slice none 0 0, .bool false] 93 := by rw [← hwc]; exact (((hB4.set 0 (.slice A4 S c4)).set 1 (.bool false)).set 2 (.slice none 0 0))
              have hFc : Fr (fun x => x = sb) (w4') wc := by rw [← hwc]; exact ((((Fr.refl (fun x => x = sb) (w4')).trans (Fr.set (X := fun x => x = sb) _ ⟨sb, 0, none⟩ _ rfl)).trans (Fr.set (X := fun x => x = sb) _ ⟨sb, 1, none⟩ _ rfl)).trans (Fr.set (X := fun x => x = sb) _ ⟨sb, 2, none⟩ _ rfl)).drew
              have hbc : Below wr.heap.size wr wc := hFc.below (hR4) (hR4).size (fun x hx => by have := Hsb.out; omega)
              have hSc : wc.cell? ⟨t, 1, none⟩ = some (.slice (some ⟨f, 0, none⟩) N cb) ∧ wc.cell? ⟨g, k, none⟩ = some (.int .i64 (i : Int)) ∧ wc.cell? ⟨sb, 0, none⟩ = some (.slice A4 S c4) ∧ wc.cell? ⟨sb, 1, none⟩ = some (.bool false) ∧ wc.cell? ⟨sb, 2, none⟩ = some (.slice none 0 0) ∧ wc.cell? ⟨sb, 3, none⟩ = some (.bool false) := ⟨(HSt.out _ hbc).1, (HSt.out _ hbc).2.1, hBc.cell (j := 0) rfl, hBc.cell (j := 1) rfl, hBc.cell (j := 2) rfl, hBc.cell (j := 3) rfl⟩
              obtain ⟨hP, hPF⟩ := HD.out.lay4 hbc HIN.out (A := A4) (n := S) (c := c4) (b := nb) (z := false) (by rw [HS.out]; exact hl4) (hl4) (hc4) (hc4') (hr4' _ hFc) (hQ4)
              have hrow := HD.out.below hbc
              have hj0 := hrow.row.frozen (i * 4)
              have hj1 := hrow.row.frozen (i * 4 + 1)
              have hj2 := hrow.row.frozen (i * 4 + 2)
              have hj3 := hrow.row.frozen (i * 4 + 3)
              obtain ⟨_, _, _, _, _, _, r0, r1, r2, r3, _⟩ := hrow.at_ HIN.out
              obtain ⟨wf, hwf⟩ : ∃ y, (((wc.setCell ⟨f, i * 4, none⟩ (.slice A4 S c4)).setCell ⟨f, i * 4 + 1, none⟩ (.bool false)).setCell ⟨f, i * 4 + 2, none⟩ (.slice none 0 0)).setCell ⟨f, i * 4 + 3, none⟩ (.bool false) = y := ⟨_, rfl⟩
              have hwf4 : w4 wc f i (.slice A4 S c4) (.bool false) (.slice none 0 0) (.bool false) = wf := hwf
              rw [hwf4] at hP hPF
              have hFf : Fr (fun x => x = f) wc wf := by
                rw [← hwf]
                exact (((Fr.set (X := fun x => x = f) wc ⟨f, i * 4, none⟩ _ rfl).trans (Fr.set (X := fun x => x = f) _ ⟨f, i * 4 + 1, none⟩ _ rfl)).trans (Fr.set (X := fun x => x = f) _ ⟨f, i * 4 + 2, none⟩ _ rfl)).trans (Fr.set (X := fun x => x = f) _ ⟨f, i * 4 + 3, none⟩ _ rfl)
              have hnt : t ≠ f := HD.out.ne
              have hsbf : sb ≠ f := by have := Hsb.out; omega
              have hgf : g ≠ f := by omega
              have hSf : wf.cell? ⟨t, 1, none⟩ = some (.slice (some ⟨f, 0, none⟩) N cb) ∧ wf.cell? ⟨g, k, none⟩ = some (.int .i64 (i : Int)) ∧ wf.cell? ⟨sb, 0, none⟩ = some (.slice A4 S c4) ∧ wf.cell? ⟨sb, 1, none⟩ = some (.bool false) ∧ wf.cell? ⟨sb, 2, none⟩ = some (.slice none 0 0) ∧ wf.cell? ⟨sb, 3, none⟩ = some (.bool false) := ⟨hFf.cell hSc.1 hnt, hFf.cell hSc.2.1 hgf, hFf.cell hSc.2.2.1 hsbf, hFf.cell hSc.2.2.2.1 hsbf, hFf.cell hSc.2.2.2.2.1 hsbf, hFf.cell hSc.2.2.2.2.2 hsbf⟩
              have HP := hide hP
              have HF9 := hide (HFk.out.trans hPF)
              have Hr9 := hide (Hr.out.fr hPF (fun _ a ha hx => by injection ha with ha; subst ha; rcases hx with h | h <;> have h' : g = _ := h <;> omega))
              have HG9 := hide (HG.out.fr hPF hnG)
              have HK9 := hide (HKk.out.fr hPF (fun hne x hx => HK.out hne x hx))
              have Hwf := hide hwf
              have HSc := hide hSc
              have HSf := hide hSf
              clear hP hPF hBc hFc hbc hrow hwf hwf4 hFf hSc hSf hnt hsbf hgf
              have hS0 : (((((w4').setCell ⟨sb, 0, none⟩ (.slice A4 S c4)).setCell ⟨sb, 1, none⟩ (.bool false)).setCell ⟨sb, 2, none⟩ (.slice none 0 0))).drew.cell? ⟨t, 1, none⟩ = some (.slice (some ⟨f, 0, none⟩) N cb) ∧ (((((w4').setCell ⟨sb, 0, none⟩ (.slice A4 S c4)).setCell ⟨sb, 1, none⟩ (.bool false)).setCell ⟨sb, 2, none⟩ (.slice none 0 0))).drew.cell? ⟨g, k, none⟩ = some (.int .i64 (i : Int)) ∧ (((((w4').setCell ⟨sb, 0, none⟩ (.slice A4 S c4)).setCell ⟨sb, 1, none⟩ (.bool false)).setCell ⟨sb, 2, none⟩ (.slice none 0 0))).drew.cell? ⟨sb, 0, none⟩ = some (.slice A4 S c4) ∧ (((((w4').setCell ⟨sb, 0, none⟩ (.slice A4 S c4)).setCell ⟨sb, 1, none⟩ (.bool false)).setCell ⟨sb, 2, none⟩ (.slice none 0 0))).drew.cell? ⟨sb, 1, none⟩ = some (.bool false) ∧ (((((w4').setCell ⟨sb, 0, none⟩ (.slice A4 S c4)).setCell ⟨sb, 1, none⟩ (.bool false)).setCell ⟨sb, 2, none⟩ (.slice none 0 0))).drew.cell? ⟨sb, 2, none⟩ = some (.slice none 0 0) ∧ (((((w4').setCell ⟨sb, 0, none⟩ (.slice A4 S c4)).setCell ⟨sb, 1, none⟩ (.bool false)).setCell ⟨sb, 2, none⟩ (.slice none 0 0))).drew.cell? ⟨sb, 3, none⟩ = some (.bool false) := by rw [hwc]; exact HSc.out
              refine wp_region_held_drew (S := fun Z => Z.cell? ⟨t, 1, none⟩ = some (.slice (some ⟨f, 0, none⟩) N cb) ∧ Z.cell? ⟨g, k, none⟩ = some (.int .i64 (i : Int)) ∧ Z.cell? ⟨sb, 0, none⟩ = some (.slice A4 S c4) ∧ Z.cell? ⟨sb, 1, none⟩ = some (.bool false) ∧ Z.cell? ⟨sb, 2, none⟩ = some (.slice none 0 0) ∧ Z.cell? ⟨sb, 3, none⟩ = some (.bool false)) (by kernel_rfl) hS0 (fun _ => ?_)
              clear hS0
              rw [hwc]
              refine wpAnyH_take (fuel := 10) (i := 0) (v := .pointer (some ⟨t, 0, none⟩)) rfl (by kernel_rfl) (by kernel_rfl) (by kernel_rfl) (fun _ _ _ h => h) (Or.inl ⟨by rfl, fun Z hZ => ?_⟩) HSc.out ?_
              · obtain ⟨z1, z2, z3, z4, z5, z6⟩ := hZ
                go_simp
              refine wpAnyH_take (fuel := 9) (i := 1) (v := .pointer (some ⟨t, 0, none⟩)) rfl (by kernel_rfl) (by kernel_rfl) (by kernel_rfl) (fun _ _ _ h => h) (Or.inl ⟨by rfl, fun Z hZ => ?_⟩) HSc.out ?_
              · obtain ⟨z1, z2, z3, z4, z5, z6⟩ := hZ
                go_simp
              refine wpAnyH_take (fuel := 8) (i := 2) (v := .pointer (some ⟨t, 1, none⟩)) rfl (by kernel_rfl) (by kernel_rfl) (by kernel_rfl) (fun _ _ _ h => h) (Or.inl ⟨by rfl, fun Z hZ => ?_⟩) HSc.out ?_
              · obtain ⟨z1, z2, z3, z4, z5, z6⟩ := hZ
                go_simp
              refine wpAnyH_take (fuel := 7) (i := 3) (v := .slice (some ⟨f, 0, none⟩) N cb) rfl (by kernel_rfl) (by kernel_rfl) (by kernel_rfl) (fun _ _ _ h => h) (Or.inl ⟨by rfl, fun Z hZ => ?_⟩) HSc.out ?_
              · obtain ⟨z1, z2, z3, z4, z5, z6⟩ := hZ
                go_simp
              refine wpAnyH_take (fuel := 6) (i := 4) (v := .slice (some ⟨g, 0, none⟩) m c) rfl (by kernel_rfl) (by kernel_rfl) (by kernel_rfl) (fun _ _ _ h => h) (Or.inl ⟨by rfl, fun Z hZ => ?_⟩) HSc.out ?_
              · obtain ⟨z1, z2, z3, z4, z5, z6⟩ := hZ
                go_simp
              refine wpAnyH_take (fuel := 5) (i := 5) (v := .int .i64 (k : Int)) rfl (by kernel_rfl) (by kernel_rfl) (by kernel_rfl) (fun _ _ _ h => h) (Or.inl ⟨by rfl, fun Z hZ => ?_⟩) HSc.out ?_
              · obtain ⟨z1, z2, z3, z4, z5, z6⟩ := hZ
                go_simp
              refine wpAnyH_take (fuel := 4) (i := 6) (v := .pointer (some ⟨g, k, none⟩)) rfl (by kernel_rfl) (by kernel_rfl) (by kernel_rfl) (fun _ _ _ h => h) (Or.inl ⟨by rfl, fun Z hZ => ?_⟩) HSc.out ?_
              · obtain ⟨z1, z2, z3, z4, z5, z6⟩ := hZ
                go_simp
              refine wpAnyH_take (fuel := 3) (i := 7) (v := .int .i64 (i : Int)) rfl (by kernel_rfl) (by kernel_rfl) (by kernel_rfl) (fun _ _ _ h => h) (Or.inl ⟨by rfl, fun Z hZ => ?_⟩) HSc.out ?_
              · obtain ⟨z1, z2, z3, z4, z5, z6⟩ := hZ
                go_simp
              refine wpAnyH_take (fuel := 2) (i := 8) (v := .agg #[.slice A4 S c4, .bool false, .slice none 0 0, .bool false]) rfl (by kernel_rfl) (by kernel_rfl) (by kernel_rfl) (fun _ _ _ h => h) (Or.inl ⟨by rfl, fun Z hZ => ?_⟩) HSc.out ?_
              · obtain ⟨z1, z2, z3, z4, z5, z6⟩ := hZ
                go_simp
              refine wpAnyH_take (fuel := 1) (i := 9) (v := .pointer (some ⟨f, i * 4, none⟩)) rfl (by kernel_rfl) (by kernel_rfl) (by kernel_rfl) (fun _ _ _ h => h) (Or.inl ⟨by rfl, fun Z hZ => ?_⟩) HSc.out ?_
              · obtain ⟨z1, z2, z3, z4, z5, z6⟩ := hZ
                go_simp
              refine all_one (fuel := 0) (i := 10) (by kernel_rfl) rfl rfl (fun Kk hK => ?_)
              go_simp
              try rw [Hwf.out]
              refine hK _ _ ⟨HSf.out, ?_⟩
              clear hK Kk
              refine wpAnyH_done (by kernel_rfl) ?_ _
              go_wp2
              go_roundw
              case rel => exact ⟨k + 1, by go_num, by omega, by rw [HST.out]; exact HP.out, HF9.out, Hr9.out, HG9.out, HK9.out⟩
              case measure => simp [RowKit.intOf]; omega
          · have xx := d0
            go_simp
            refine hK _ _ ⟨d2, ?_⟩
            clear hK Kk xx
            refine wpAnyH_take (fuel := 5) (i := 9) (v := .slice (cutA A1 c1 C 1) (n1 - C) (c1 - C)) rfl (by kernel_rfl) (by kernel_rfl) (by kernel_rfl) (fun _ _ _ h => h) (Or.inl ⟨by rfl, fun Z hZ => ?_⟩) d2 ?_
            · go_simp
            refine all_one (fuel := 4) (i := 0) (by kernel_rfl) rfl rfl (fun Kk hK => ?_)
            go_simp
            try rw [hzd]
            try rw [Hwz.out]
            refine hK _ _ ⟨z2, ?_⟩
            clear hK Kk
            refine all_one (fuel := 3) (i := 5) (by kernel_rfl) rfl rfl (fun Kk hK => ?_)
            refine oper_own rfl tBytes (base := sb + 1) (e := 5) (by rfl) hE (A := B1) (m := C) (c := e1) (by rfl) (by rw [bys_length, List.length_take]; omega) (Hnew.out _ hbdz) (bys_one _) (by omega) (by omega) (by omega) ?_
            intro v1 w3 hO1 hg1 hv1
            rw [Nat.zero_add, List.nil_append] at hO1
            have hb3 : Below (sb + 1) wd w3 := hbdz.grown hg1 (by omega) (fun k hk => by simp [Value.ownBlock] at hk; omega)
            have hz3 := hg1.size
            have t0 := (HBW.out _ hb3).cell (j := 0) rfl
            have t2 := (HBW.out _ hb3).cell (j := 2) rfl
            obtain ⟨A3, c3, rfl, _⟩ := own_out hO1
            refine hK _ _ ⟨t2, ?_⟩
            clear hK Kk
            refine all_one (fuel := 2) (i := 10) (by kernel_rfl) rfl rfl (fun Kk hK => ?_)
            refine oper_own rfl tBytes (base := sb + 1) (e := 5) (by rfl) hO1 (A := cutA A1 c1 C 1) (m := n1 - C) (c := c1 - C) (by rfl) (by rw [bys_length, List.length_drop]; omega) (Hold.out _ hb3) (bys_one _) (by omega) (by omega) (by omega) ?_
            intro v2 w4' hO2 hg2 hv2
            rw [show C + (n1 - C) = S by omega, ← bys_append] at hO2
            have lo1 := own_out hO1
            have hb4 : Below (sb + 1) wd w4' := hb3.grown hg2 (by omega) (fun k hk => by
              obtain ⟨A0, c0, h0, _, _, _, _, hlo⟩ := lo1
              injection h0 with h0 _ _
              cases A3 with
              | none => simp [Value.ownBlock] at hk
              | some a3 => simp [Value.ownBlock] at hk; have := (hlo a3 h0.symm).1; omega)
            obtain ⟨A4, c4, rfl, _, hc4, hcm4, hr4, ha4⟩ := own_out hO2
            have hB4 := HBW.out _ hb4
            have hR4 := HRW.out _ hb4
            have hz4 := hg2.size
            have s0 := hB4.cell (j := 0) rfl
            have s1 := hB4.cell (j := 1) rfl
            have s2 := hB4.cell (j := 2) rfl
            have s3 := hB4.cell (j := 3) rfl
            have js0 := hB4.frozen 0
            have js1 := hB4.frozen 1
            have js2 := hB4.frozen 2
            refine hK _ _ ⟨s2, ?_⟩
            clear hK Kk
            refine all_one (fuel := 1) (i := 11) (by kernel_rfl) rfl rfl (fun Kk hK => ?_)
            go_simp
            refine hK _ _ ⟨s2, ?_⟩
            clear hK Kk
            refine all_one (fuel := 0) (i := 12) (by kernel_rfl) rfl rfl (fun Kk hK => ?_)
            go_simp
            refine hK _ _ ⟨(hB4.set 0 _).cell (j := 2) rfl, ?_⟩
            clear hK Kk
            refine wpAnyH_done (by kernel_rfl) ?_ _
            rw [HS.out, hTB] at HST
            have hl4 : (bs.take C ++ fi.drop C).length = S := by rw [List.length_append, List.length_take, List.length_drop]; omega
            obtain ⟨nb, hnb⟩ : ∃ nb, bs.take C ++ fi.drop C = nb := ⟨_, rfl⟩
            rw [hnb] at HST hl4 hr4
            have hc4' : c4 ≤ 9223372036854775807 := by unfold maxLen at hcm4; omega
            have hlo4 : ∀ a, A4 = some a → sb + 1 ≤ a.block := fun a ha => (ha4 a ha).1
            have hQ4 : ∀ a, A4 = some a → Q a.block := fun a ha => HQ.out _ (by have := hlo4 a ha; have := Hg.out; omega)
            have hr4' : ∀ wc, Fr (fun x => x = sb) w4' wc → Rd wc A4 (bys nb) := fun wc hF => hr4.fr hF (fun _ a ha hx => by have := hlo4 a ha; have hx' : a.block = sb := hx; omega)
            clear hO1 hO2 hg1 hg2 hv1 hv2 hr4 ha4 lo1 hE hnb hTB
            go_wp2_with fail
            obtain ⟨wc, hwc⟩ : ∃ y, (((((w4').setCell ⟨sb, 0, none⟩ (.slice A4 S c4)).setCell ⟨sb, 1, none⟩ (.bool false)).setCell ⟨sb, 2, none⟩ (.slice none 0 0))).drew = y := ⟨_, rfl⟩
            have hBc : Blk wc sb [.slice A4 S c4, .bool false, .slice none 0 0, .bool false] 93 := by rw [← hwc]; exact (((hB4.set 0 (.slice A4 S c4)).set 1 (.bool false)).set 2 (.slice none 0 0))
            have hFc : Fr (fun x => x = sb) (w4') wc := by rw [← hwc]; exact ((((Fr.refl (fun x => x = sb) (w4')).trans (Fr.set (X := fun x => x = sb) _ ⟨sb, 0, none⟩ _ rfl)).trans (Fr.set (X := fun x => x = sb) _ ⟨sb, 1, none⟩ _ rfl)).trans (Fr.set (X := fun x => x = sb) _ ⟨sb, 2, none⟩ _ rfl)).drew
            have hbc : Below wr.heap.size wr wc := hFc.below (hR4) (hR4).size (fun x hx => by have := Hsb.out; omega)
            have hSc : wc.cell? ⟨t, 1, none⟩ = some (.slice (some ⟨f, 0, none⟩) N cb) ∧ wc.cell? ⟨g, k, none⟩ = some (.int .i64 (i : Int)) ∧ wc.cell? ⟨sb, 0, none⟩ = some (.slice A4 S c4) ∧ wc.cell? ⟨sb, 1, none⟩ = some (.bool false) ∧ wc.cell? ⟨sb, 2, none⟩ = some (.slice none 0 0) ∧ wc.cell? ⟨sb, 3, none⟩ = some (.bool false) := ⟨(HSt.out _ hbc).1, (HSt.out _ hbc).2.1, hBc.cell (j := 0) rfl, hBc.cell (j := 1) rfl, hBc.cell (j := 2) rfl, hBc.cell (j := 3) rfl⟩
            obtain ⟨hP, hPF⟩ := HD.out.lay4 hbc HIN.out (A := A4) (n := S) (c := c4) (b := nb) (z := false) (by rw [HS.out]; exact hl4) (hl4) (hc4) (hc4') (hr4' _ hFc) (hQ4)
            have hrow := HD.out.below hbc
            have hj0 := hrow.row.frozen (i * 4)
            have hj1 := hrow.row.frozen (i * 4 + 1)
            have hj2 := hrow.row.frozen (i * 4 + 2)
            have hj3 := hrow.row.frozen (i * 4 + 3)
            obtain ⟨_, _, _, _, _, _, r0, r1, r2, r3, _⟩ := hrow.at_ HIN.out
            obtain ⟨wf, hwf⟩ : ∃ y, (((wc.setCell ⟨f, i * 4, none⟩ (.slice A4 S c4)).setCell ⟨f, i * 4 + 1, none⟩ (.bool false)).setCell ⟨f, i * 4 + 2, none⟩ (.slice none 0 0)).setCell ⟨f, i * 4 + 3, none⟩ (.bool false) = y := ⟨_, rfl⟩
            have hwf4 : w4 wc f i (.slice A4 S c4) (.bool false) (.slice none 0 0) (.bool false) = wf := hwf
            rw [hwf4] at hP hPF
            have hFf : Fr (fun x => x = f) wc wf := by
              rw [← hwf]
              exact (((Fr.set (X := fun x => x = f) wc ⟨f, i * 4, none⟩ _ rfl).trans (Fr.set (X := fun x => x = f) _ ⟨f, i * 4 + 1, none⟩ _ rfl)).trans (Fr.set (X := fun x => x = f) _ ⟨f, i * 4 + 2, none⟩ _ rfl)).trans (Fr.set (X := fun x => x = f) _ ⟨f, i * 4 + 3, none⟩ _ rfl)
            have hnt : t ≠ f := HD.out.ne
            have hsbf : sb ≠ f := by have := Hsb.out; omega
            have hgf : g ≠ f := by omega
            have hSf : wf.cell? ⟨t, 1, none⟩ = some (.slice (some ⟨f, 0, none⟩) N cb) ∧ wf.cell? ⟨g, k, none⟩ = some (.int .i64 (i : Int)) ∧ wf.cell? ⟨sb, 0, none⟩ = some (.slice A4 S c4) ∧ wf.cell? ⟨sb, 1, none⟩ = some (.bool false) ∧ wf.cell? ⟨sb, 2, none⟩ = some (.slice none 0 0) ∧ wf.cell? ⟨sb, 3, none⟩ = some (.bool false) := ⟨hFf.cell hSc.1 hnt, hFf.cell hSc.2.1 hgf, hFf.cell hSc.2.2.1 hsbf, hFf.cell hSc.2.2.2.1 hsbf, hFf.cell hSc.2.2.2.2.1 hsbf, hFf.cell hSc.2.2.2.2.2 hsbf⟩
            have HP := hide hP
            have HF9 := hide (HFk.out.trans hPF)
            have Hr9 := hide (Hr.out.fr hPF (fun _ a ha hx => by injection ha with ha; subst ha; rcases hx with h | h <;> have h' : g = _ := h <;> omega))
            have HG9 := hide (HG.out.fr hPF hnG)
            have HK9 := hide (HKk.out.fr hPF (fun hne x hx => HK.out hne x hx))
            have Hwf := hide hwf
            have HSc := hide hSc
            have HSf := hide hSf
            clear hP hPF hBc hFc hbc hrow hwf hwf4 hFf hSc hSf hnt hsbf hgf
            have hS0 : (((((w4').setCell ⟨sb, 0, none⟩ (.slice A4 S c4)).setCell ⟨sb, 1, none⟩ (.bool false)).setCell ⟨sb, 2, none⟩ (.slice none 0 0))).drew.cell? ⟨t, 1, none⟩ = some (.slice (some ⟨f, 0, none⟩) N cb) ∧ (((((w4').setCell ⟨sb, 0, none⟩ (.slice A4 S c4)).setCell ⟨sb, 1, none⟩ (.bool false)).setCell ⟨sb, 2, none⟩ (.slice none 0 0))).drew.cell? ⟨g, k, none⟩ = some (.int .i64 (i : Int)) ∧ (((((w4').setCell ⟨sb, 0, none⟩ (.slice A4 S c4)).setCell ⟨sb, 1, none⟩ (.bool false)).setCell ⟨sb, 2, none⟩ (.slice none 0 0))).drew.cell? ⟨sb, 0, none⟩ = some (.slice A4 S c4) ∧ (((((w4').setCell ⟨sb, 0, none⟩ (.slice A4 S c4)).setCell ⟨sb, 1, none⟩ (.bool false)).setCell ⟨sb, 2, none⟩ (.slice none 0 0))).drew.cell? ⟨sb, 1, none⟩ = some (.bool false) ∧ (((((w4').setCell ⟨sb, 0, none⟩ (.slice A4 S c4)).setCell ⟨sb, 1, none⟩ (.bool false)).setCell ⟨sb, 2, none⟩ (.slice none 0 0))).drew.cell? ⟨sb, 2, none⟩ = some (.slice none 0 0) ∧ (((((w4').setCell ⟨sb, 0, none⟩ (.slice A4 S c4)).setCell ⟨sb, 1, none⟩ (.bool false)).setCell ⟨sb, 2, none⟩ (.slice none 0 0))).drew.cell? ⟨sb, 3, none⟩ = some (.bool false) := by rw [hwc]; exact HSc.out
            refine wp_region_held_drew (S := fun Z => Z.cell? ⟨t, 1, none⟩ = some (.slice (some ⟨f, 0, none⟩) N cb) ∧ Z.cell? ⟨g, k, none⟩ = some (.int .i64 (i : Int)) ∧ Z.cell? ⟨sb, 0, none⟩ = some (.slice A4 S c4) ∧ Z.cell? ⟨sb, 1, none⟩ = some (.bool false) ∧ Z.cell? ⟨sb, 2, none⟩ = some (.slice none 0 0) ∧ Z.cell? ⟨sb, 3, none⟩ = some (.bool false)) (by kernel_rfl) hS0 (fun _ => ?_)
            clear hS0
            rw [hwc]
            refine wpAnyH_take (fuel := 10) (i := 0) (v := .pointer (some ⟨t, 0, none⟩)) rfl (by kernel_rfl) (by kernel_rfl) (by kernel_rfl) (fun _ _ _ h => h) (Or.inl ⟨by rfl, fun Z hZ => ?_⟩) HSc.out ?_
            · obtain ⟨z1, z2, z3, z4, z5, z6⟩ := hZ
              go_simp
            refine wpAnyH_take (fuel := 9) (i := 1) (v := .pointer (some ⟨t, 0, none⟩)) rfl (by kernel_rfl) (by kernel_rfl) (by kernel_rfl) (fun _ _ _ h => h) (Or.inl ⟨by rfl, fun Z hZ => ?_⟩) HSc.out ?_
            · obtain ⟨z1, z2, z3, z4, z5, z6⟩ := hZ
              go_simp
            refine wpAnyH_take (fuel := 8) (i := 2) (v := .pointer (some ⟨t, 1, none⟩)) rfl (by kernel_rfl) (by kernel_rfl) (by kernel_rfl) (fun _ _ _ h => h) (Or.inl ⟨by rfl, fun Z hZ => ?_⟩) HSc.out ?_
            · obtain ⟨z1, z2, z3, z4, z5, z6⟩ := hZ
              go_simp
            refine wpAnyH_take (fuel := 7) (i := 3) (v := .slice (some ⟨f, 0, none⟩) N cb) rfl (by kernel_rfl) (by kernel_rfl) (by kernel_rfl) (fun _ _ _ h => h) (Or.inl ⟨by rfl, fun Z hZ => ?_⟩) HSc.out ?_
            · obtain ⟨z1, z2, z3, z4, z5, z6⟩ := hZ
              go_simp
            refine wpAnyH_take (fuel := 6) (i := 4) (v := .slice (some ⟨g, 0, none⟩) m c) rfl (by kernel_rfl) (by kernel_rfl) (by kernel_rfl) (fun _ _ _ h => h) (Or.inl ⟨by rfl, fun Z hZ => ?_⟩) HSc.out ?_
            · obtain ⟨z1, z2, z3, z4, z5, z6⟩ := hZ
              go_simp
            refine wpAnyH_take (fuel := 5) (i := 5) (v := .int .i64 (k : Int)) rfl (by kernel_rfl) (by kernel_rfl) (by kernel_rfl) (fun _ _ _ h => h) (Or.inl ⟨by rfl, fun Z hZ => ?_⟩) HSc.out ?_
            · obtain ⟨z1, z2, z3, z4, z5, z6⟩ := hZ
              go_simp
            refine wpAnyH_take (fuel := 4) (i := 6) (v := .pointer (some ⟨g, k, none⟩)) rfl (by kernel_rfl) (by kernel_rfl) (by kernel_rfl) (fun _ _ _ h => h) (Or.inl ⟨by rfl, fun Z hZ => ?_⟩) HSc.out ?_
            · obtain ⟨z1, z2, z3, z4, z5, z6⟩ := hZ
              go_simp
            refine wpAnyH_take (fuel := 3) (i := 7) (v := .int .i64 (i : Int)) rfl (by kernel_rfl) (by kernel_rfl) (by kernel_rfl) (fun _ _ _ h => h) (Or.inl ⟨by rfl, fun Z hZ => ?_⟩) HSc.out ?_
            · obtain ⟨z1, z2, z3, z4, z5, z6⟩ := hZ
              go_simp
            refine wpAnyH_take (fuel := 2) (i := 8) (v := .agg #[.slice A4 S c4, .bool false, .slice none 0 0, .bool false]) rfl (by kernel_rfl) (by kernel_rfl) (by kernel_rfl) (fun _ _ _ h => h) (Or.inl ⟨by rfl, fun Z hZ => ?_⟩) HSc.out ?_
            · obtain ⟨z1, z2, z3, z4, z5, z6⟩ := hZ
              go_simp
            refine wpAnyH_take (fuel := 1) (i := 9) (v := .pointer (some ⟨f, i * 4, none⟩)) rfl (by kernel_rfl) (by kernel_rfl) (by kernel_rfl) (fun _ _ _ h => h) (Or.inl ⟨by rfl, fun Z hZ => ?_⟩) HSc.out ?_
            · obtain ⟨z1, z2, z3, z4, z5, z6⟩ := hZ
              go_simp
            refine all_one (fuel := 0) (i := 10) (by kernel_rfl) rfl rfl (fun Kk hK => ?_)
            go_simp
            try rw [Hwf.out]
            refine hK _ _ ⟨HSf.out, ?_⟩
            clear hK Kk
            refine wpAnyH_done (by kernel_rfl) ?_ _
            go_wp2
            go_roundw
            case rel => exact ⟨k + 1, by go_num, by omega, by rw [HST.out]; exact HP.out, HF9.out, Hr9.out, HG9.out, HK9.out⟩
            case measure => simp [RowKit.intOf]; omega
      · have u1 : ((k : Int) == torn) = false := by simp [hkt]
        rw [if_neg hkt, if_neg hkt] at HST
        clear hkt
        by_cases hkk : k < kn
        · have hkl2 : k < keep.length := by rw [hkn]; exact hkk
          obtain ⟨ak, rfl, hck⟩ := (HKk.out.below Hb5.out) k _ (bls_get hkl2)
          have hgd : keep.getD k false = keep[k] := by simp [List.getD_eq_getElem?_getD, List.getElem?_eq_getElem hkl2]
          rw [hgd] at HST
          obtain ⟨kb, hkb⟩ : ∃ kb, keep[k] = kb := ⟨_, rfl⟩
          rw [hkb] at hck HST
          clear hgd hkb hkl2
          cases kb with
          | true =>
            rw [if_pos rfl, if_pos rfl] at HST
            go_wp2_with fail
            obtain ⟨wc, hwc⟩ : ∃ y, ((((((w5).setCell ⟨sb, 0, none⟩ (.slice B1 m1 e1)).setCell ⟨sb, 3, none⟩ (.bool false)).setCell ⟨sb, 1, none⟩ (.bool false)).setCell ⟨sb, 2, none⟩ (.slice none 0 0))).drew = y := ⟨_, rfl⟩
            have hBc : Blk wc sb [.slice B1 m1 e1, .bool false, .slice none 0 0, .bool false] 93 := by rw [← hwc]; exact ((((hB5.set 0 (.slice B1 m1 e1)).set 3 (.bool false)).set 1 (.bool false)).set 2 (.slice none 0 0))
            have hFc : Fr (fun x => x = sb) (w5) wc := by rw [← hwc]; exact (((((Fr.refl (fun x => x = sb) (w5)).trans (Fr.set (X := fun x => x = sb) _ ⟨sb, 0, none⟩ _ rfl)).trans (Fr.set (X := fun x => x = sb) _ ⟨sb, 3, none⟩ _ rfl)).trans (Fr.set (X := fun x => x = sb) _ ⟨sb, 1, none⟩ _ rfl)).trans (Fr.set (X := fun x => x = sb) _ ⟨sb, 2, none⟩ _ rfl)).drew
            have hbc : Below wr.heap.size wr wc := hFc.below (Hb5.out) (Hb5.out).size (fun x hx => by have := Hsb.out; omega)
            have hSc : wc.cell? ⟨t, 1, none⟩ = some (.slice (some ⟨f, 0, none⟩) N cb) ∧ wc.cell? ⟨g, k, none⟩ = some (.int .i64 (i : Int)) ∧ wc.cell? ⟨sb, 0, none⟩ = some (.slice B1 m1 e1) ∧ wc.cell? ⟨sb, 1, none⟩ = some (.bool false) ∧ wc.cell? ⟨sb, 2, none⟩ = some (.slice none 0 0) ∧ wc.cell? ⟨sb, 3, none⟩ = some (.bool false) := ⟨(HSt.out _ hbc).1, (HSt.out _ hbc).2.1, hBc.cell (j := 0) rfl, hBc.cell (j := 1) rfl, hBc.cell (j := 2) rfl, hBc.cell (j := 3) rfl⟩
            obtain ⟨hP, hPF⟩ := HD.out.lay4 hbc HIN.out (A := B1) (n := m1) (c := e1) (b := bs) (z := false) (by rw [HS.out]; exact hbl) (HBn.out.1) (HBn.out.2.2.2.1) (HBn.out.2.2.2.2) (HBn.out.2.1.below hbc) (HBn.out.2.2.1)
            have hrow := HD.out.below hbc
            have hj0 := hrow.row.frozen (i * 4)
            have hj1 := hrow.row.frozen (i * 4 + 1)
            have hj2 := hrow.row.frozen (i * 4 + 2)
            have hj3 := hrow.row.frozen (i * 4 + 3)
            obtain ⟨_, _, _, _, _, _, r0, r1, r2, r3, _⟩ := hrow.at_ HIN.out
            obtain ⟨wf, hwf⟩ : ∃ y, (((wc.setCell ⟨f, i * 4, none⟩ (.slice B1 m1 e1)).setCell ⟨f, i * 4 + 1, none⟩ (.bool false)).setCell ⟨f, i * 4 + 2, none⟩ (.slice none 0 0)).setCell ⟨f, i * 4 + 3, none⟩ (.bool false) = y := ⟨_, rfl⟩
            have hwf4 : w4 wc f i (.slice B1 m1 e1) (.bool false) (.slice none 0 0) (.bool false) = wf := hwf
            rw [hwf4] at hP hPF
            have hFf : Fr (fun x => x = f) wc wf := by
              rw [← hwf]
              exact (((Fr.set (X := fun x => x = f) wc ⟨f, i * 4, none⟩ _ rfl).trans (Fr.set (X := fun x => x = f) _ ⟨f, i * 4 + 1, none⟩ _ rfl)).trans (Fr.set (X := fun x => x = f) _ ⟨f, i * 4 + 2, none⟩ _ rfl)).trans (Fr.set (X := fun x => x = f) _ ⟨f, i * 4 + 3, none⟩ _ rfl)
            have hnt : t ≠ f := HD.out.ne
            have hsbf : sb ≠ f := by have := Hsb.out; omega
            have hgf : g ≠ f := by omega
            have hSf : wf.cell? ⟨t, 1, none⟩ = some (.slice (some ⟨f, 0, none⟩) N cb) ∧ wf.cell? ⟨g, k, none⟩ = some (.int .i64 (i : Int)) ∧ wf.cell? ⟨sb, 0, none⟩ = some (.slice B1 m1 e1) ∧ wf.cell? ⟨sb, 1, none⟩ = some (.bool false) ∧ wf.cell? ⟨sb, 2, none⟩ = some (.slice none 0 0) ∧ wf.cell? ⟨sb, 3, none⟩ = some (.bool false) := ⟨hFf.cell hSc.1 hnt, hFf.cell hSc.2.1 hgf, hFf.cell hSc.2.2.1 hsbf, hFf.cell hSc.2.2.2.1 hsbf, hFf.cell hSc.2.2.2.2.1 hsbf, hFf.cell hSc.2.2.2.2.2 hsbf⟩
            have HP := hide hP
            have HF9 := hide (HFk.out.trans hPF)
            have Hr9 := hide (Hr.out.fr hPF (fun _ a ha hx => by injection ha with ha; subst ha; rcases hx with h | h <;> have h' : g = _ := h <;> omega))
            have HG9 := hide (HG.out.fr hPF hnG)
            have HK9 := hide (HKk.out.fr hPF (fun hne x hx => HK.out hne x hx))
            have Hwf := hide hwf
            have HSc := hide hSc
            have HSf := hide hSf
            clear hP hPF hBc hFc hbc hrow hwf hwf4 hFf hSc hSf hnt hsbf hgf
            have hS0 : ((((((w5).setCell ⟨sb, 0, none⟩ (.slice B1 m1 e1)).setCell ⟨sb, 3, none⟩ (.bool false)).setCell ⟨sb, 1, none⟩ (.bool false)).setCell ⟨sb, 2, none⟩ (.slice none 0 0))).drew.cell? ⟨t, 1, none⟩ = some (.slice (some ⟨f, 0, none⟩) N cb) ∧ ((((((w5).setCell ⟨sb, 0, none⟩ (.slice B1 m1 e1)).setCell ⟨sb, 3, none⟩ (.bool false)).setCell ⟨sb, 1, none⟩ (.bool false)).setCell ⟨sb, 2, none⟩ (.slice none 0 0))).drew.cell? ⟨g, k, none⟩ = some (.int .i64 (i : Int)) ∧ ((((((w5).setCell ⟨sb, 0, none⟩ (.slice B1 m1 e1)).setCell ⟨sb, 3, none⟩ (.bool false)).setCell ⟨sb, 1, none⟩ (.bool false)).setCell ⟨sb, 2, none⟩ (.slice none 0 0))).drew.cell? ⟨sb, 0, none⟩ = some (.slice B1 m1 e1) ∧ ((((((w5).setCell ⟨sb, 0, none⟩ (.slice B1 m1 e1)).setCell ⟨sb, 3, none⟩ (.bool false)).setCell ⟨sb, 1, none⟩ (.bool false)).setCell ⟨sb, 2, none⟩ (.slice none 0 0))).drew.cell? ⟨sb, 1, none⟩ = some (.bool false) ∧ ((((((w5).setCell ⟨sb, 0, none⟩ (.slice B1 m1 e1)).setCell ⟨sb, 3, none⟩ (.bool false)).setCell ⟨sb, 1, none⟩ (.bool false)).setCell ⟨sb, 2, none⟩ (.slice none 0 0))).drew.cell? ⟨sb, 2, none⟩ = some (.slice none 0 0) ∧ ((((((w5).setCell ⟨sb, 0, none⟩ (.slice B1 m1 e1)).setCell ⟨sb, 3, none⟩ (.bool false)).setCell ⟨sb, 1, none⟩ (.bool false)).setCell ⟨sb, 2, none⟩ (.slice none 0 0))).drew.cell? ⟨sb, 3, none⟩ = some (.bool false) := by rw [hwc]; exact HSc.out
            refine wp_region_held_drew (S := fun Z => Z.cell? ⟨t, 1, none⟩ = some (.slice (some ⟨f, 0, none⟩) N cb) ∧ Z.cell? ⟨g, k, none⟩ = some (.int .i64 (i : Int)) ∧ Z.cell? ⟨sb, 0, none⟩ = some (.slice B1 m1 e1) ∧ Z.cell? ⟨sb, 1, none⟩ = some (.bool false) ∧ Z.cell? ⟨sb, 2, none⟩ = some (.slice none 0 0) ∧ Z.cell? ⟨sb, 3, none⟩ = some (.bool false)) (by kernel_rfl) hS0 (fun _ => ?_)
            clear hS0
            rw [hwc]
            refine wpAnyH_take (fuel := 10) (i := 0) (v := .pointer (some ⟨t, 0, none⟩)) rfl (by kernel_rfl) (by kernel_rfl) (by kernel_rfl) (fun _ _ _ h => h) (Or.inl ⟨by rfl, fun Z hZ => ?_⟩) HSc.out ?_
            · obtain ⟨z1, z2, z3, z4, z5, z6⟩ := hZ
              go_simp
            refine wpAnyH_take (fuel := 9) (i := 1) (v := .pointer (some ⟨t, 0, none⟩)) rfl (by kernel_rfl) (by kernel_rfl) (by kernel_rfl) (fun _ _ _ h => h) (Or.inl ⟨by rfl, fun Z hZ => ?_⟩) HSc.out ?_
            · obtain ⟨z1, z2, z3, z4, z5, z6⟩ := hZ
              go_simp
            refine wpAnyH_take (fuel := 8) (i := 2) (v := .pointer (some ⟨t, 1, none⟩)) rfl (by kernel_rfl) (by kernel_rfl) (by kernel_rfl) (fun _ _ _ h => h) (Or.inl ⟨by rfl, fun Z hZ => ?_⟩) HSc.out ?_
            · obtain ⟨z1, z2, z3, z4, z5, z6⟩ := hZ
              go_simp
            refine wpAnyH_take (fuel := 7) (i := 3) (v := .slice (some ⟨f, 0, none⟩) N cb) rfl (by kernel_rfl) (by kernel_rfl) (by kernel_rfl) (fun _ _ _ h => h) (Or.inl ⟨by rfl, fun Z hZ => ?_⟩) HSc.out ?_
            · obtain ⟨z1, z2, z3, z4, z5, z6⟩ := hZ
              go_simp
            refine wpAnyH_take (fuel := 6) (i := 4) (v := .slice (some ⟨g, 0, none⟩) m c) rfl (by kernel_rfl) (by kernel_rfl) (by kernel_rfl) (fun _ _ _ h => h) (Or.inl ⟨by rfl, fun Z hZ => ?_⟩) HSc.out ?_
            · obtain ⟨z1, z2, z3, z4, z5, z6⟩ := hZ
              go_simp
            refine wpAnyH_take (fuel := 5) (i := 5) (v := .int .i64 (k : Int)) rfl (by kernel_rfl) (by kernel_rfl) (by kernel_rfl) (fun _ _ _ h => h) (Or.inl ⟨by rfl, fun Z hZ => ?_⟩) HSc.out ?_
            · obtain ⟨z1, z2, z3, z4, z5, z6⟩ := hZ
              go_simp
            refine wpAnyH_take (fuel := 4) (i := 6) (v := .pointer (some ⟨g, k, none⟩)) rfl (by kernel_rfl) (by kernel_rfl) (by kernel_rfl) (fun _ _ _ h => h) (Or.inl ⟨by rfl, fun Z hZ => ?_⟩) HSc.out ?_
            · obtain ⟨z1, z2, z3, z4, z5, z6⟩ := hZ
              go_simp
            refine wpAnyH_take (fuel := 3) (i := 7) (v := .int .i64 (i : Int)) rfl (by kernel_rfl) (by kernel_rfl) (by kernel_rfl) (fun _ _ _ h => h) (Or.inl ⟨by rfl, fun Z hZ => ?_⟩) HSc.out ?_
            · obtain ⟨z1, z2, z3, z4, z5, z6⟩ := hZ
              go_simp
            refine wpAnyH_take (fuel := 2) (i := 8) (v := .agg #[.slice B1 m1 e1, .bool false, .slice none 0 0, .bool false]) rfl (by kernel_rfl) (by kernel_rfl) (by kernel_rfl) (fun _ _ _ h => h) (Or.inl ⟨by rfl, fun Z hZ => ?_⟩) HSc.out ?_
            · obtain ⟨z1, z2, z3, z4, z5, z6⟩ := hZ
              go_simp
            refine wpAnyH_take (fuel := 1) (i := 9) (v := .pointer (some ⟨f, i * 4, none⟩)) rfl (by kernel_rfl) (by kernel_rfl) (by kernel_rfl) (fun _ _ _ h => h) (Or.inl ⟨by rfl, fun Z hZ => ?_⟩) HSc.out ?_
            · obtain ⟨z1, z2, z3, z4, z5, z6⟩ := hZ
              go_simp
            refine all_one (fuel := 0) (i := 10) (by kernel_rfl) rfl rfl (fun Kk hK => ?_)
            go_simp
            try rw [Hwf.out]
            refine hK _ _ ⟨HSf.out, ?_⟩
            clear hK Kk
            refine wpAnyH_done (by kernel_rfl) ?_ _
            go_wp2
            go_roundw
            case rel => exact ⟨k + 1, by go_num, by omega, by rw [HST.out]; exact HP.out, HF9.out, Hr9.out, HG9.out, HK9.out⟩
            case measure => simp [RowKit.intOf]; omega
          | false =>
            rw [if_neg (by decide), if_neg (by decide)] at HST
            go_wp2_with fail
            obtain ⟨wc, hwc⟩ : ∃ y, ((((w5).setCell ⟨sb, 1, none⟩ (.bool false)).setCell ⟨sb, 2, none⟩ (.slice none 0 0))).drew = y := ⟨_, rfl⟩
            have hBc : Blk wc sb [.slice A1 n1 c1, .bool false, .slice none 0 0, .bool bd] 93 := by rw [← hwc]; exact ((hB5.set 1 (.bool false)).set 2 (.slice none 0 0))
            have hFc : Fr (fun x => x = sb) (w5) wc := by rw [← hwc]; exact (((Fr.refl (fun x => x = sb) (w5)).trans (Fr.set (X := fun x => x = sb) _ ⟨sb, 1, none⟩ _ rfl)).trans (Fr.set (X := fun x => x = sb) _ ⟨sb, 2, none⟩ _ rfl)).drew
            have hbc : Below wr.heap.size wr wc := hFc.below (Hb5.out) (Hb5.out).size (fun x hx => by have := Hsb.out; omega)
            have hSc : wc.cell? ⟨t, 1, none⟩ = some (.slice (some ⟨f, 0, none⟩) N cb) ∧ wc.cell? ⟨g, k, none⟩ = some (.int .i64 (i : Int)) ∧ wc.cell? ⟨sb, 0, none⟩ = some (.slice A1 n1 c1) ∧ wc.cell? ⟨sb, 1, none⟩ = some (.bool false) ∧ wc.cell? ⟨sb, 2, none⟩ = some (.slice none 0 0) ∧ wc.cell? ⟨sb, 3, none⟩ = some (.bool bd) := ⟨(HSt.out _ hbc).1, (HSt.out _ hbc).2.1, hBc.cell (j := 0) rfl, hBc.cell (j := 1) rfl, hBc.cell (j := 2) rfl, hBc.cell (j := 3) rfl⟩
            obtain ⟨hP, hPF⟩ := HD.out.lay4 hbc HIN.out (A := A1) (n := n1) (c := c1) (b := fi) (z := bd) (by rw [HS.out]; exact hfl) (Hbn.out.1) (Hbn.out.2.1) (Hbn.out.2.2.1) (Hbn.out.2.2.2.1.below hbc) (Hbn.out.2.2.2.2)
            have hrow := HD.out.below hbc
            have hj0 := hrow.row.frozen (i * 4)
            have hj1 := hrow.row.frozen (i * 4 + 1)
            have hj2 := hrow.row.frozen (i * 4 + 2)
            have hj3 := hrow.row.frozen (i * 4 + 3)
            obtain ⟨_, _, _, _, _, _, r0, r1, r2, r3, _⟩ := hrow.at_ HIN.out
            obtain ⟨wf, hwf⟩ : ∃ y, (((wc.setCell ⟨f, i * 4, none⟩ (.slice A1 n1 c1)).setCell ⟨f, i * 4 + 1, none⟩ (.bool false)).setCell ⟨f, i * 4 + 2, none⟩ (.slice none 0 0)).setCell ⟨f, i * 4 + 3, none⟩ (.bool bd) = y := ⟨_, rfl⟩
            have hwf4 : w4 wc f i (.slice A1 n1 c1) (.bool false) (.slice none 0 0) (.bool bd) = wf := hwf
            rw [hwf4] at hP hPF
            have hFf : Fr (fun x => x = f) wc wf := by
              rw [← hwf]
              exact (((Fr.set (X := fun x => x = f) wc ⟨f, i * 4, none⟩ _ rfl).trans (Fr.set (X := fun x => x = f) _ ⟨f, i * 4 + 1, none⟩ _ rfl)).trans (Fr.set (X := fun x => x = f) _ ⟨f, i * 4 + 2, none⟩ _ rfl)).trans (Fr.set (X := fun x => x = f) _ ⟨f, i * 4 + 3, none⟩ _ rfl)
            have hnt : t ≠ f := HD.out.ne
            have hsbf : sb ≠ f := by have := Hsb.out; omega
            have hgf : g ≠ f := by omega
            have hSf : wf.cell? ⟨t, 1, none⟩ = some (.slice (some ⟨f, 0, none⟩) N cb) ∧ wf.cell? ⟨g, k, none⟩ = some (.int .i64 (i : Int)) ∧ wf.cell? ⟨sb, 0, none⟩ = some (.slice A1 n1 c1) ∧ wf.cell? ⟨sb, 1, none⟩ = some (.bool false) ∧ wf.cell? ⟨sb, 2, none⟩ = some (.slice none 0 0) ∧ wf.cell? ⟨sb, 3, none⟩ = some (.bool bd) := ⟨hFf.cell hSc.1 hnt, hFf.cell hSc.2.1 hgf, hFf.cell hSc.2.2.1 hsbf, hFf.cell hSc.2.2.2.1 hsbf, hFf.cell hSc.2.2.2.2.1 hsbf, hFf.cell hSc.2.2.2.2.2 hsbf⟩
            have HP := hide hP
            have HF9 := hide (HFk.out.trans hPF)
            have Hr9 := hide (Hr.out.fr hPF (fun _ a ha hx => by injection ha with ha; subst ha; rcases hx with h | h <;> have h' : g = _ := h <;> omega))
            have HG9 := hide (HG.out.fr hPF hnG)
            have HK9 := hide (HKk.out.fr hPF (fun hne x hx => HK.out hne x hx))
            have Hwf := hide hwf
            have HSc := hide hSc
            have HSf := hide hSf
            clear hP hPF hBc hFc hbc hrow hwf hwf4 hFf hSc hSf hnt hsbf hgf
            have hS0 : ((((w5).setCell ⟨sb, 1, none⟩ (.bool false)).setCell ⟨sb, 2, none⟩ (.slice none 0 0))).drew.cell? ⟨t, 1, none⟩ = some (.slice (some ⟨f, 0, none⟩) N cb) ∧ ((((w5).setCell ⟨sb, 1, none⟩ (.bool false)).setCell ⟨sb, 2, none⟩ (.slice none 0 0))).drew.cell? ⟨g, k, none⟩ = some (.int .i64 (i : Int)) ∧ ((((w5).setCell ⟨sb, 1, none⟩ (.bool false)).setCell ⟨sb, 2, none⟩ (.slice none 0 0))).drew.cell? ⟨sb, 0, none⟩ = some (.slice A1 n1 c1) ∧ ((((w5).setCell ⟨sb, 1, none⟩ (.bool false)).setCell ⟨sb, 2, none⟩ (.slice none 0 0))).drew.cell? ⟨sb, 1, none⟩ = some (.bool false) ∧ ((((w5).setCell ⟨sb, 1, none⟩ (.bool false)).setCell ⟨sb, 2, none⟩ (.slice none 0 0))).drew.cell? ⟨sb, 2, none⟩ = some (.slice none 0 0) ∧ ((((w5).setCell ⟨sb, 1, none⟩ (.bool false)).setCell ⟨sb, 2, none⟩ (.slice none 0 0))).drew.cell? ⟨sb, 3, none⟩ = some (.bool bd) := by rw [hwc]; exact HSc.out
            refine wp_region_held_drew (S := fun Z => Z.cell? ⟨t, 1, none⟩ = some (.slice (some ⟨f, 0, none⟩) N cb) ∧ Z.cell? ⟨g, k, none⟩ = some (.int .i64 (i : Int)) ∧ Z.cell? ⟨sb, 0, none⟩ = some (.slice A1 n1 c1) ∧ Z.cell? ⟨sb, 1, none⟩ = some (.bool false) ∧ Z.cell? ⟨sb, 2, none⟩ = some (.slice none 0 0) ∧ Z.cell? ⟨sb, 3, none⟩ = some (.bool bd)) (by kernel_rfl) hS0 (fun _ => ?_)
            clear hS0
            rw [hwc]
            refine wpAnyH_take (fuel := 10) (i := 0) (v := .pointer (some ⟨t, 0, none⟩)) rfl (by kernel_rfl) (by kernel_rfl) (by kernel_rfl) (fun _ _ _ h => h) (Or.inl ⟨by rfl, fun Z hZ => ?_⟩) HSc.out ?_
            · obtain ⟨z1, z2, z3, z4, z5, z6⟩ := hZ
              go_simp
            refine wpAnyH_take (fuel := 9) (i := 1) (v := .pointer (some ⟨t, 0, none⟩)) rfl (by kernel_rfl) (by kernel_rfl) (by kernel_rfl) (fun _ _ _ h => h) (Or.inl ⟨by rfl, fun Z hZ => ?_⟩) HSc.out ?_
            · obtain ⟨z1, z2, z3, z4, z5, z6⟩ := hZ
              go_simp
            refine wpAnyH_take (fuel := 8) (i := 2) (v := .pointer (some ⟨t, 1, none⟩)) rfl (by kernel_rfl) (by kernel_rfl) (by kernel_rfl) (fun _ _ _ h => h) (Or.inl ⟨by rfl, fun Z hZ => ?_⟩) HSc.out ?_
            · obtain ⟨z1, z2, z3, z4, z5, z6⟩ := hZ
              go_simp
            refine wpAnyH_take (fuel := 7) (i := 3) (v := .slice (some ⟨f, 0, none⟩) N cb) rfl (by kernel_rfl) (by kernel_rfl) (by kernel_rfl) (fun _ _ _ h => h) (Or.inl ⟨by rfl, fun Z hZ => ?_⟩) HSc.out ?_
            · obtain ⟨z1, z2, z3, z4, z5, z6⟩ := hZ
              go_simp
            refine wpAnyH_take (fuel := 6) (i := 4) (v := .slice (some ⟨g, 0, none⟩) m c) rfl (by kernel_rfl) (by kernel_rfl) (by kernel_rfl) (fun _ _ _ h => h) (Or.inl ⟨by rfl, fun Z hZ => ?_⟩) HSc.out ?_
            · obtain ⟨z1, z2, z3, z4, z5, z6⟩ := hZ
              go_simp
            refine wpAnyH_take (fuel := 5) (i := 5) (v := .int .i64 (k : Int)) rfl (by kernel_rfl) (by kernel_rfl) (by kernel_rfl) (fun _ _ _ h => h) (Or.inl ⟨by rfl, fun Z hZ => ?_⟩) HSc.out ?_
            · obtain ⟨z1, z2, z3, z4, z5, z6⟩ := hZ
              go_simp
            refine wpAnyH_take (fuel := 4) (i := 6) (v := .pointer (some ⟨g, k, none⟩)) rfl (by kernel_rfl) (by kernel_rfl) (by kernel_rfl) (fun _ _ _ h => h) (Or.inl ⟨by rfl, fun Z hZ => ?_⟩) HSc.out ?_
            · obtain ⟨z1, z2, z3, z4, z5, z6⟩ := hZ
              go_simp
            refine wpAnyH_take (fuel := 3) (i := 7) (v := .int .i64 (i : Int)) rfl (by kernel_rfl) (by kernel_rfl) (by kernel_rfl) (fun _ _ _ h => h) (Or.inl ⟨by rfl, fun Z hZ => ?_⟩) HSc.out ?_
            · obtain ⟨z1, z2, z3, z4, z5, z6⟩ := hZ
              go_simp
            refine wpAnyH_take (fuel := 2) (i := 8) (v := .agg #[.slice A1 n1 c1, .bool false, .slice none 0 0, .bool bd]) rfl (by kernel_rfl) (by kernel_rfl) (by kernel_rfl) (fun _ _ _ h => h) (Or.inl ⟨by rfl, fun Z hZ => ?_⟩) HSc.out ?_
            · obtain ⟨z1, z2, z3, z4, z5, z6⟩ := hZ
              go_simp
            refine wpAnyH_take (fuel := 1) (i := 9) (v := .pointer (some ⟨f, i * 4, none⟩)) rfl (by kernel_rfl) (by kernel_rfl) (by kernel_rfl) (fun _ _ _ h => h) (Or.inl ⟨by rfl, fun Z hZ => ?_⟩) HSc.out ?_
            · obtain ⟨z1, z2, z3, z4, z5, z6⟩ := hZ
              go_simp
            refine all_one (fuel := 0) (i := 10) (by kernel_rfl) rfl rfl (fun Kk hK => ?_)
            go_simp
            try rw [Hwf.out]
            refine hK _ _ ⟨HSf.out, ?_⟩
            clear hK Kk
            refine wpAnyH_done (by kernel_rfl) ?_ _
            go_wp2
            go_roundw
            case rel => exact ⟨k + 1, by go_num, by omega, by rw [HST.out]; exact HP.out, HF9.out, Hr9.out, HG9.out, HK9.out⟩
            case measure => simp [RowKit.intOf]; omega
        · have q3 : decide (k < kn) = false := decide_eq_false hkk
          have hgd : keep.getD k false = false := by
            rw [List.getD_eq_getElem?_getD, List.getElem?_eq_none (by rw [hkn]; omega)]; rfl
          rw [hgd, if_neg (by decide), if_neg (by decide)] at HST
          clear hgd
          go_wp2_with fail
          obtain ⟨wc, hwc⟩ : ∃ y, ((((w5).setCell ⟨sb, 1, none⟩ (.bool false)).setCell ⟨sb, 2, none⟩ (.slice none 0 0))).drew = y := ⟨_, rfl⟩
          have hBc : Blk wc sb [.slice A1 n1 c1, .bool false, .slice none 0 0, .bool bd] 93 := by rw [← hwc]; exact ((hB5.set 1 (.bool false)).set 2 (.slice none 0 0))
          have hFc : Fr (fun x => x = sb) (w5) wc := by rw [← hwc]; exact (((Fr.refl (fun x => x = sb) (w5)).trans (Fr.set (X := fun x => x = sb) _ ⟨sb, 1, none⟩ _ rfl)).trans (Fr.set (X := fun x => x = sb) _ ⟨sb, 2, none⟩ _ rfl)).drew
          have hbc : Below wr.heap.size wr wc := hFc.below (Hb5.out) (Hb5.out).size (fun x hx => by have := Hsb.out; omega)
          have hSc : wc.cell? ⟨t, 1, none⟩ = some (.slice (some ⟨f, 0, none⟩) N cb) ∧ wc.cell? ⟨g, k, none⟩ = some (.int .i64 (i : Int)) ∧ wc.cell? ⟨sb, 0, none⟩ = some (.slice A1 n1 c1) ∧ wc.cell? ⟨sb, 1, none⟩ = some (.bool false) ∧ wc.cell? ⟨sb, 2, none⟩ = some (.slice none 0 0) ∧ wc.cell? ⟨sb, 3, none⟩ = some (.bool bd) := ⟨(HSt.out _ hbc).1, (HSt.out _ hbc).2.1, hBc.cell (j := 0) rfl, hBc.cell (j := 1) rfl, hBc.cell (j := 2) rfl, hBc.cell (j := 3) rfl⟩
          obtain ⟨hP, hPF⟩ := HD.out.lay4 hbc HIN.out (A := A1) (n := n1) (c := c1) (b := fi) (z := bd) (by rw [HS.out]; exact hfl) (Hbn.out.1) (Hbn.out.2.1) (Hbn.out.2.2.1) (Hbn.out.2.2.2.1.below hbc) (Hbn.out.2.2.2.2)
          have hrow := HD.out.below hbc
          have hj0 := hrow.row.frozen (i * 4)
          have hj1 := hrow.row.frozen (i * 4 + 1)
          have hj2 := hrow.row.frozen (i * 4 + 2)
          have hj3 := hrow.row.frozen (i * 4 + 3)
          obtain ⟨_, _, _, _, _, _, r0, r1, r2, r3, _⟩ := hrow.at_ HIN.out
          obtain ⟨wf, hwf⟩ : ∃ y, (((wc.setCell ⟨f, i * 4, none⟩ (.slice A1 n1 c1)).setCell ⟨f, i * 4 + 1, none⟩ (.bool false)).setCell ⟨f, i * 4 + 2, none⟩ (.slice none 0 0)).setCell ⟨f, i * 4 + 3, none⟩ (.bool bd) = y := ⟨_, rfl⟩
          have hwf4 : w4 wc f i (.slice A1 n1 c1) (.bool false) (.slice none 0 0) (.bool bd) = wf := hwf
          rw [hwf4] at hP hPF
          have hFf : Fr (fun x => x = f) wc wf := by
            rw [← hwf]
            exact (((Fr.set (X := fun x => x = f) wc ⟨f, i * 4, none⟩ _ rfl).trans (Fr.set (X := fun x => x = f) _ ⟨f, i * 4 + 1, none⟩ _ rfl)).trans (Fr.set (X := fun x => x = f) _ ⟨f, i * 4 + 2, none⟩ _ rfl)).trans (Fr.set (X := fun x => x = f) _ ⟨f, i * 4 + 3, none⟩ _ rfl)
          have hnt : t ≠ f := HD.out.ne
          have hsbf : sb ≠ f := by have := Hsb.out; omega
          have hgf : g ≠ f := by omega
          have hSf : wf.cell? ⟨t, 1, none⟩ = some (.slice (some ⟨f, 0, none⟩) N cb) ∧ wf.cell? ⟨g, k, none⟩ = some (.int .i64 (i : Int)) ∧ wf.cell? ⟨sb, 0, none⟩ = some (.slice A1 n1 c1) ∧ wf.cell? ⟨sb, 1, none⟩ = some (.bool false) ∧ wf.cell? ⟨sb, 2, none⟩ = some (.slice none 0 0) ∧ wf.cell? ⟨sb, 3, none⟩ = some (.bool bd) := ⟨hFf.cell hSc.1 hnt, hFf.cell hSc.2.1 hgf, hFf.cell hSc.2.2.1 hsbf, hFf.cell hSc.2.2.2.1 hsbf, hFf.cell hSc.2.2.2.2.1 hsbf, hFf.cell hSc.2.2.2.2.2 hsbf⟩
          have HP := hide hP
          have HF9 := hide (HFk.out.trans hPF)
          have Hr9 := hide (Hr.out.fr hPF (fun _ a ha hx => by injection ha with ha; subst ha; rcases hx with h | h <;> have h' : g = _ := h <;> omega))
          have HG9 := hide (HG.out.fr hPF hnG)
          have HK9 := hide (HKk.out.fr hPF (fun hne x hx => HK.out hne x hx))
          have Hwf := hide hwf
          have HSc := hide hSc
          have HSf := hide hSf
          clear hP hPF hBc hFc hbc hrow hwf hwf4 hFf hSc hSf hnt hsbf hgf
          have hS0 : ((((w5).setCell ⟨sb, 1, none⟩ (.bool false)).setCell ⟨sb, 2, none⟩ (.slice none 0 0))).drew.cell? ⟨t, 1, none⟩ = some (.slice (some ⟨f, 0, none⟩) N cb) ∧ ((((w5).setCell ⟨sb, 1, none⟩ (.bool false)).setCell ⟨sb, 2, none⟩ (.slice none 0 0))).drew.cell? ⟨g, k, none⟩ = some (.int .i64 (i : Int)) ∧ ((((w5).setCell ⟨sb, 1, none⟩ (.bool false)).setCell ⟨sb, 2, none⟩ (.slice none 0 0))).drew.cell? ⟨sb, 0, none⟩ = some (.slice A1 n1 c1) ∧ ((((w5).setCell ⟨sb, 1, none⟩ (.bool false)).setCell ⟨sb, 2, none⟩ (.slice none 0 0))).drew.cell? ⟨sb, 1, none⟩ = some (.bool false) ∧ ((((w5).setCell ⟨sb, 1, none⟩ (.bool false)).setCell ⟨sb, 2, none⟩ (.slice none 0 0))).drew.cell? ⟨sb, 2, none⟩ = some (.slice none 0 0) ∧ ((((w5).setCell ⟨sb, 1, none⟩ (.bool false)).setCell ⟨sb, 2, none⟩ (.slice none 0 0))).drew.cell? ⟨sb, 3, none⟩ = some (.bool bd) := by rw [hwc]; exact HSc.out
          refine wp_region_held_drew (S := fun Z => Z.cell? ⟨t, 1, none⟩ = some (.slice (some ⟨f, 0, none⟩) N cb) ∧ Z.cell? ⟨g, k, none⟩ = some (.int .i64 (i : Int)) ∧ Z.cell? ⟨sb, 0, none⟩ = some (.slice A1 n1 c1) ∧ Z.cell? ⟨sb, 1, none⟩ = some (.bool false) ∧ Z.cell? ⟨sb, 2, none⟩ = some (.slice none 0 0) ∧ Z.cell? ⟨sb, 3, none⟩ = some (.bool bd)) (by kernel_rfl) hS0 (fun _ => ?_)
          clear hS0
          rw [hwc]
          refine wpAnyH_take (fuel := 10) (i := 0) (v := .pointer (some ⟨t, 0, none⟩)) rfl (by kernel_rfl) (by kernel_rfl) (by kernel_rfl) (fun _ _ _ h => h) (Or.inl ⟨by rfl, fun Z hZ => ?_⟩) HSc.out ?_
          · obtain ⟨z1, z2, z3, z4, z5, z6⟩ := hZ
            go_simp
          refine wpAnyH_take (fuel := 9) (i := 1) (v := .pointer (some ⟨t, 0, none⟩)) rfl (by kernel_rfl) (by kernel_rfl) (by kernel_rfl) (fun _ _ _ h => h) (Or.inl ⟨by rfl, fun Z hZ => ?_⟩) HSc.out ?_
          · obtain ⟨z1, z2, z3, z4, z5, z6⟩ := hZ
            go_simp
          refine wpAnyH_take (fuel := 8) (i := 2) (v := .pointer (some ⟨t, 1, none⟩)) rfl (by kernel_rfl) (by kernel_rfl) (by kernel_rfl) (fun _ _ _ h => h) (Or.inl ⟨by rfl, fun Z hZ => ?_⟩) HSc.out ?_
          · obtain ⟨z1, z2, z3, z4, z5, z6⟩ := hZ
            go_simp
          refine wpAnyH_take (fuel := 7) (i := 3) (v := .slice (some ⟨f, 0, none⟩) N cb) rfl (by kernel_rfl) (by kernel_rfl) (by kernel_rfl) (fun _ _ _ h => h) (Or.inl ⟨by rfl, fun Z hZ => ?_⟩) HSc.out ?_
          · obtain ⟨z1, z2, z3, z4, z5, z6⟩ := hZ
            go_simp
          refine wpAnyH_take (fuel := 6) (i := 4) (v := .slice (some ⟨g, 0, none⟩) m c) rfl (by kernel_rfl) (by kernel_rfl) (by kernel_rfl) (fun _ _ _ h => h) (Or.inl ⟨by rfl, fun Z hZ => ?_⟩) HSc.out ?_
          · obtain ⟨z1, z2, z3, z4, z5, z6⟩ := hZ
            go_simp
          refine wpAnyH_take (fuel := 5) (i := 5) (v := .int .i64 (k : Int)) rfl (by kernel_rfl) (by kernel_rfl) (by kernel_rfl) (fun _ _ _ h => h) (Or.inl ⟨by rfl, fun Z hZ => ?_⟩) HSc.out ?_
          · obtain ⟨z1, z2, z3, z4, z5, z6⟩ := hZ
            go_simp
          refine wpAnyH_take (fuel := 4) (i := 6) (v := .pointer (some ⟨g, k, none⟩)) rfl (by kernel_rfl) (by kernel_rfl) (by kernel_rfl) (fun _ _ _ h => h) (Or.inl ⟨by rfl, fun Z hZ => ?_⟩) HSc.out ?_
          · obtain ⟨z1, z2, z3, z4, z5, z6⟩ := hZ
            go_simp
          refine wpAnyH_take (fuel := 3) (i := 7) (v := .int .i64 (i : Int)) rfl (by kernel_rfl) (by kernel_rfl) (by kernel_rfl) (fun _ _ _ h => h) (Or.inl ⟨by rfl, fun Z hZ => ?_⟩) HSc.out ?_
          · obtain ⟨z1, z2, z3, z4, z5, z6⟩ := hZ
            go_simp
          refine wpAnyH_take (fuel := 2) (i := 8) (v := .agg #[.slice A1 n1 c1, .bool false, .slice none 0 0, .bool bd]) rfl (by kernel_rfl) (by kernel_rfl) (by kernel_rfl) (fun _ _ _ h => h) (Or.inl ⟨by rfl, fun Z hZ => ?_⟩) HSc.out ?_
          · obtain ⟨z1, z2, z3, z4, z5, z6⟩ := hZ
            go_simp
          refine wpAnyH_take (fuel := 1) (i := 9) (v := .pointer (some ⟨f, i * 4, none⟩)) rfl (by kernel_rfl) (by kernel_rfl) (by kernel_rfl) (fun _ _ _ h => h) (Or.inl ⟨by rfl, fun Z hZ => ?_⟩) HSc.out ?_
          · obtain ⟨z1, z2, z3, z4, z5, z6⟩ := hZ
            go_simp
          refine all_one (fuel := 0) (i := 10) (by kernel_rfl) rfl rfl (fun Kk hK => ?_)
          go_simp
          try rw [Hwf.out]
          refine hK _ _ ⟨HSf.out, ?_⟩
          clear hK Kk
          refine wpAnyH_done (by kernel_rfl) ?_ _
          go_wp2
          go_roundw
          case rel => exact ⟨k + 1, by go_num, by omega, by rw [HST.out]; exact HP.out, HF9.out, Hr9.out, HG9.out, HK9.out⟩
          case measure => simp [RowKit.intOf]; omega
    · have hke : k = m := by omega
      subst hke
      have HFU := hide (rfuse08_any hDk (-1) (by omega))
      have HFk := hide hFk
      clear hDk hFk hrk hGk hKk
      go_wp2_with fail
      refine HFU.out.mono ?_
      rintro x w9 ⟨rfl, hD9, hF9, _⟩
      have hfi : fuseI (-1) = -1 := by decide
      rw [hfi, HDN.out] at hD9
      have H := hide (And.intro hD9 (HFk.out.trans (hF9.mono (fun x hx => .inl hx))))
      clear hD9 hF9 HFU
      go_wp2
      refine bodyPost_end (results_none rfl _ _ _) rfl ?_
      exact ⟨rfl, ⟨_, H.out.1⟩, H.out.2⟩
end
end Go.Proofs.YtoaodmidegkolaaGreatDoor
namespace Go.Proofs.YtoaodmidegkolaaGreatDoor
set_option maxRecDepth 20000
open Go.RowKit Go.Px Go.Maps
set_option linter.unusedVariables false
section
variable {w w' : World} {t f lm bm t2 f2 : Nat} {cs : List Value} {d : Dk}
/-- What neither disk keeps for itself. -/
def Free (t f lm bm t2 f2 : Nat) (b : Nat) : Prop := ¬ OwnB t f lm bm b ∧ ¬ ROwn t2 f2 b
/-- Both disks, which hold the same. -/
structure Both (w : World) (t f lm bm t2 f2 : Nat) (d : Dk) : Prop where
  a : DIs w (Free t f lm bm t2 f2) t f lm bm d
  b : ∃ cs, RDIs w (Free t f lm bm t2 f2) t2 f2 cs d
  n1 : ¬ OwnB t f lm bm t2
  n2 : ¬ OwnB t f lm bm f2
theorem Both.below (h : Both w t f lm bm t2 f2 d) (hb : Below w.heap.size w w') : Both w' t f lm bm t2 f2 d := by
  obtain ⟨cs, hc⟩ := h.b
  exact ⟨h.a.below hb, ⟨cs, hc.below hb⟩, h.n1, h.n2⟩
theorem Both.new (h : Both w t f lm bm t2 f2 d) : ∀ b, w.heap.size ≤ b → Free t f lm bm t2 f2 b := fun b hb => by
  obtain ⟨cs, hc⟩ := h.b
  have := hc.lts
  have := h.a.lts
  exact ⟨fun hx => by rcases hx with h | h | h | h <;> omega, fun hx => by rcases hx with h | h <;> omega⟩
def clampI (m n : Int) : Int := if 64 < n ∧ n ≤ m then 64 else n
theorem both_new {w w1 w2 : World} {N S f2 : Nat} {cs : List Value} (hN1 : N ≤ 64) (hS1 : S ≤ 64) (hD : DIs w1 (fun _ => False) (w.heap.size + 3) w.heap.size (w.heap.size + 1) (w.heap.size + 2) (Dk.new N S)) (hz : w1.heap.size = w.heap.size + 4) (hb : Below w.heap.size w w1) (hR : RDIs w2 (fun b => w1.heap.size + 1 ≤ b ∧ b ≠ f2) w1.heap.size f2 cs (Dk.new N S)) (hf : w1.heap.size + 1 ≤ f2) (hb2 : Below w1.heap.size w1 w2) :
    Both w2 (w.heap.size + 3) w.heap.size (w.heap.size + 1) (w.heap.size + 2) w1.heap.size f2 (Dk.new N S) ∧ (∀ b, ¬ Free (w.heap.size + 3) w.heap.size (w.heap.size + 1) (w.heap.size + 2) w1.heap.size f2 b → w.heap.size ≤ b) ∧ Below w.heap.size w w2 := by
  have ho : ∀ x, OwnB (w.heap.size + 3) w.heap.size (w.heap.size + 1) (w.heap.size + 2) x → w.heap.size ≤ x ∧ x < w1.heap.size := fun x hx => by rcases hx with h | h | h | h <;> omega
  refine ⟨⟨?_, ⟨cs, ?_⟩, fun hx => by have := ho _ hx; omega, fun hx => by have := ho _ hx; omega⟩, fun b hb => ?_, hb.trans (hb2.mono (by omega))⟩
  · refine (hD.below hb2).mono (fun b hb => hb.elim) (fun b hb => ⟨fun e => hb.1 (.inl e), fun e => hb.1 (.inr (.inl e)), fun e => hb.1 (.inr (.inr (.inl e))), fun e => hb.1 (.inr (.inr (.inr e)))⟩)
  · refine hR.mono (fun b hb => ⟨fun hx => by have := ho _ hx; omega, fun hx => by rcases hx with h | h <;> omega⟩) (fun b hb => ⟨fun e => hb.2 (.inl e), fun e => hb.2 (.inr e)⟩)
  · rcases Classical.em (OwnB (w.heap.size + 3) w.heap.size (w.heap.size + 1) (w.heap.size + 2) b) with h | h
    · exact (ho _ h).1
    · rcases Classical.em (ROwn w1.heap.size f2 b) with h' | h'
      · rcases h' with h' | h' <;> omega
      · exact absurd ⟨h, h'⟩ hb
end
end Go.Proofs.YtoaodmidegkolaaGreatDoor
namespace Go.Proofs.YtoaodmidegkolaaGreatDoor
set_option maxRecDepth 20000
open Go.RowKit Go.Px Go.Maps
set_option linter.unusedVariables false
section
variable {w w' w1 w2 : World} {t f lm bm t2 f2 : Nat} {cs cs' : List Value} {d d' : Dk}
/-- What one disk does moves nothing of the other. -/
theorem Both.left (h : Both w t f lm bm t2 f2 d) (hc : RDIs w1 (Free t f lm bm t2 f2) t2 f2 cs d') (hF : Fr (OwnB t f lm bm) w1 w2) : RDIs w2 (Free t f lm bm t2 f2) t2 f2 cs d' :=
  hc.fr hF h.n1 h.n2 (fun b hb => hb.1)
theorem Both.right (h : Both w t f lm bm t2 f2 d) (hD : DIs w1 (Free t f lm bm t2 f2) t f lm bm d') (hF : Fr (ROwn t2 f2) w1 w2) : DIs w2 (Free t f lm bm t2 f2) t f lm bm d' := by
  have hx : ∀ x, OwnB t f lm bm x → ¬ ROwn t2 f2 x := fun x hx hr => by
    rcases hr with h' | h'
    · exact h.n1 (h' ▸ hx)
    · exact h.n2 (h' ▸ hx)
  exact hD.fr hF (hx _ (.inl rfl)) (hx _ (.inr (.inl rfl))) (hx _ (.inr (.inr (.inl rfl)))) (hx _ (.inr (.inr (.inr rfl)))) (fun b hb => hb.2)
/-- What both may write. -/
def Six (t f lm bm t2 f2 : Nat) (b : Nat) : Prop := OwnB t f lm bm b ∨ ROwn t2 f2 b
theorem Both.next (h : Both w t f lm bm t2 f2 d) (hD : DIs w1 (Free t f lm bm t2 f2) t f lm bm d') (h1 : Fr (OwnB t f lm bm) w w1) (hR : ∃ cs', RDIs w2 (Free t f lm bm t2 f2) t2 f2 cs' d') (h2 : Fr (ROwn t2 f2) w1 w2) : Both w2 t f lm bm t2 f2 d' ∧ Fr (Six t f lm bm t2 f2) w w2 :=
  ⟨⟨h.right hD h2, hR, h.n1, h.n2⟩, (h1.mono (fun x hx => .inl hx)).trans (h2.mono (fun x hx => .inr hx))⟩
theorem Both.next2 (h : Both w t f lm bm t2 f2 d) (hR : ∃ cs', RDIs w1 (Free t f lm bm t2 f2) t2 f2 cs' d') (h1 : Fr (ROwn t2 f2) w w1) (hD : DIs w2 (Free t f lm bm t2 f2) t f lm bm d') (h2 : Fr (OwnB t f lm bm) w1 w2) : Both w2 t f lm bm t2 f2 d' ∧ Fr (Six t f lm bm t2 f2) w w2 := by
  obtain ⟨cs', hR⟩ := hR
  exact ⟨⟨hD, ⟨cs', h.left hR h2⟩, h.n1, h.n2⟩, (h1.mono (fun x hx => .inr hx)).trans (h2.mono (fun x hx => .inl hx))⟩
end
end Go.Proofs.YtoaodmidegkolaaGreatDoor
namespace Go.Proofs.YtoaodmidegkolaaGreatDoor
set_option maxRecDepth 20000
open Go.RowKit Go.Px Go.Maps
set_option linter.unusedVariables false
section
variable {w w' w1 w2 : World} {t f lm bm t2 f2 : Nat} {cs cs' : List Value} {d d' : Dk}
/-- What both may write lies where nothing was. -/
theorem six_lo {B : Nat} (hfree : ∀ b, ¬ Free t f lm bm t2 f2 b → B ≤ b) : ∀ k, Six t f lm bm t2 f2 k → B ≤ k := fun k hk => hfree k (fun hx => by
  rcases hk with hk | hk
  · exact hx.1 hk
  · exact hx.2 hk)
theorem free_lo {B : Nat} (hfree : ∀ b, ¬ Free t f lm bm t2 f2 b → B ≤ b) : ∀ b, b < B → Free t f lm bm t2 f2 b := fun b hb => Classical.byContradiction fun hx => by
  have := hfree b hx
  omega
end
end Go.Proofs.YtoaodmidegkolaaGreatDoor
