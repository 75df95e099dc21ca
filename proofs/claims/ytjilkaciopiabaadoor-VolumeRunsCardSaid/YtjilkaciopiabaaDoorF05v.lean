/- plinthref05: write. -/
import Derived.Test.YtjilkaciopiabaaDoorF05u
import Derived.Test.YtjilkaciopiabaaDoorM05
namespace Go.Proofs.YtjilkaciopiabaaDoor
open Go.RowKit Go.Px
set_option linter.unusedVariables false
theorem splB_snoc {bs xs ys : List UInt8} {o : Nat} (h : o + xs.length + ys.length ≤ bs.length) : splB (splB bs o xs) (o + xs.length) ys = splB bs o (xs ++ ys) := by
  unfold splB
  have h1 : (bs.take o ++ xs).length = o + xs.length := by rw [List.length_append, List.length_take]; omega
  rw [List.take_left' h1, ← List.drop_drop, List.drop_left' h1, List.drop_drop, List.length_append]
  simp only [List.append_assoc]
  congr 4
  omega
theorem seg_spl {bs xs : List UInt8} {b z N q i : Nat} (hl : bs.length = N) (hN : b * z = N) (hq : q < b) (hi : i < b) (hx : xs.length = z) : segB (splB bs (q * z) xs) i 1 z = if i = q then xs else segB bs i 1 z := by
  have hqz : q * z + z ≤ N := by rw [← hN]; have := Nat.mul_le_mul_right z (show q + 1 ≤ b by omega); rw [Nat.add_mul, Nat.one_mul] at this; exact this
  have hiz : i * z + z ≤ N := by rw [← hN]; have := Nat.mul_le_mul_right z (show i + 1 ≤ b by omega); rw [Nat.add_mul, Nat.one_mul] at this; exact this
  have hsl : (splB bs (q * z) xs).length = bs.length := splB_length (by omega)
  have e1 : (segB (splB bs (q * z) xs) i 1 z).length = z := by unfold segB; rw [List.length_take, List.length_drop, hsl, hl, Nat.one_mul]; omega
  have e2 : (segB bs i 1 z).length = z := by unfold segB; rw [List.length_take, List.length_drop, hl, Nat.one_mul]; omega
  have sg : ∀ (l : List UInt8) (j : Nat), j < z → (segB l i 1 z).getD j 0 = l.getD (i * z + j) 0 := by
    intro l j hj
    unfold segB
    simp only [List.getD_eq_getElem?_getD, List.getElem?_take, List.getElem?_drop, Nat.one_mul, if_pos hj]
  refine ext_getD (x := 0) (by split <;> omega) fun j hj => ?_
  rw [e1] at hj
  rw [sg _ _ hj, splB_getD (by omega), hx]
  have hbo := blk_out (i := i) (P := q) (M := 1) hj
  rw [Nat.one_mul] at hbo
  by_cases h : i = q
  · subst h
    rw [if_pos ⟨by omega, by omega⟩, if_pos rfl]
    congr 1; omega
  · rw [if_neg (fun hh => by have := hbo.1 hh; omega), if_neg h, sg _ _ hj]
section
variable {w w' : World} {lo rv gb gv cb cv b z N : Nat} {rows sv : List Value} {bs : List UInt8} {vs : List Int} {last : Int}
theorem RVolIs.setRow (h : RVolIs w lo rv gb gv cb cv b z N rows sv bs vs last) {q : Nat} (hq : q < b) {A : Option Addr} {c : Nat} {xs : List UInt8} (hx : xs.length = z) (hc : z ≤ c ∧ c ≤ 9223372036854775807) (hA : Rd w A (bys xs)) (hf : ∀ a, A = some a → lo ≤ a.block ∧ a.block ≠ rv ∧ a.block ≠ gb ∧ a.block ≠ gv) :
    RVolIs (w.setCell ⟨gb, q, none⟩ (.slice A z c)) lo rv gb gv cb cv b z N (rows.set q (.slice A z c)) sv (splB bs (q * z) xs) vs last := by
  have hU : Upd gb gb gb w (w.setCell ⟨gb, q, none⟩ (.slice A z c)) := Upd.setV w q _
  have hqz : q * z + z ≤ N := by rw [← h.hN]; have := Nat.mul_le_mul_right z (show q + 1 ≤ b by omega); rw [Nat.add_mul, Nat.one_mul] at this; exact this
  have hql : q < rows.length := by obtain ⟨_, _, k1, _⟩ := h.cells q hq; exact (List.getElem?_eq_some_iff.1 k1).1
  exact { h with
    blk := h.blk.apart h.rb q _
    row := h.row.set q _
    ver := h.ver.apart (Ne.symm h.bg) q _
    lb := by rw [splB_length (by rw [hx, h.lb]; omega)]; exact h.lb
    cells := fun i hi => by
      rw [seg_spl h.lb h.hN hq hi hx]
      by_cases e : i = q
      · subst e
        rw [if_pos rfl]
        exact ⟨A, c, by rw [List.getElem?_set_self hql], hc.1, hc.2, Rd.upd hA hU (fun a ha => ⟨(hf a ha).2.2.1, (hf a ha).2.2.1, (hf a ha).2.2.1⟩), hf⟩
      · obtain ⟨A', c', k1, k2, k3, k4, k5⟩ := h.cells i hi
        rw [if_neg e]
        exact ⟨A', c', by rw [List.getElem?_set_ne (Ne.symm e)]; exact k1, k2, k3, Rd.upd k4 hU (fun a ha => ⟨(k5 a ha).2.2.1, (k5 a ha).2.2.1, (k5 a ha).2.2.1⟩), k5⟩ }
theorem RVolIs.setVer (h : RVolIs w lo rv gb gv cb cv b z N rows sv bs vs last) {q : Nat} (hq : q < b) (x : Int) :
    RVolIs (w.setCell ⟨gv, q, none⟩ (.int .i64 x)) lo rv gb gv cb cv b z N rows sv bs (vs.set q x) last := by
  have hU : Upd gv gv gv w (w.setCell ⟨gv, q, none⟩ (.int .i64 x)) := Upd.setV w q _
  exact { h with
    blk := h.blk.apart h.rg q _
    row := h.row.apart h.bg q _
    ver := by
      have := h.ver.set q (.int .i64 x)
      rwa [List.set_append_left _ _ (by rw [ints_length, h.lv]; exact hq), ← ints_set] at this
    lv := by rw [List.length_set]; exact h.lv
    cells := fun i hi => by
      obtain ⟨A', c', k1, k2, k3, k4, k5⟩ := h.cells i hi
      exact ⟨A', c', k1, k2, k3, Rd.upd k4 hU (fun a ha => ⟨(k5 a ha).2.2.2, (k5 a ha).2.2.2, (k5 a ha).2.2.2⟩), k5⟩ }
theorem RVolIs.setLast (h : RVolIs w lo rv gb gv cb cv b z N rows sv bs vs last) (x : Int) :
    RVolIs (w.setCell ⟨rv, 4, none⟩ (.int .i64 x)) lo rv gb gv cb cv b z N rows sv bs vs x := by
  have hU : Upd rv rv rv w (w.setCell ⟨rv, 4, none⟩ (.int .i64 x)) := Upd.setV w 4 _
  exact { h with
    blk := h.blk.set 4 (.int .i64 x)
    row := h.row.apart (Ne.symm h.rb) 4 _
    ver := h.ver.apart (Ne.symm h.rg) 4 _
    cells := fun i hi => by
      obtain ⟨A', c', k1, k2, k3, k4, k5⟩ := h.cells i hi
      exact ⟨A', c', k1, k2, k3, Rd.upd k4 hU (fun a ha => ⟨(k5 a ha).2.1, (k5 a ha).2.1, (k5 a ha).2.1⟩), k5⟩ }
end
theorem Upd.setR {v r s : Nat} (w : World) (j : Nat) (u : Value) : Upd v r s w (w.setCell ⟨r, j, none⟩ u) := ⟨rfl, rfl, rfl, by simp, fun k _ _ h _ => heap_setCell_other w ⟨r, j, none⟩ k u h⟩
theorem cutA_block {D : Option Addr} {c k s : Nat} {P : Nat → Prop} (h : ∀ a, D = some a → P a.block) : ∀ a, cutA D c k s = some a → P a.block := by
  intro a ha
  unfold cutA at ha
  split at ha
  · exact h a ha
  · cases D with
    | none => cases ha
    | some x => injection ha with ha; subst ha; show P (x.add (k * s)).block; rw [add_block]; exact h x rfl
def RowsNew (b z B : Nat) (rows rows' : List Value) : Prop := ∀ i A c, i < b → rows'[i]? = some (.slice A z c) → rows[i]? = some (.slice A z c) ∨ ∀ a, A = some a → B ≤ a.block
theorem RowsNew.set {b z B : Nat} {rows rows' : List Value} (h : RowsNew b z B rows rows') {q : Nat} {A : Option Addr} {c : Nat} (hA : ∀ a, A = some a → B ≤ a.block) : RowsNew b z B rows (rows'.set q (.slice A z c)) := by
  intro i A' c' hi h'
  by_cases e : q = i
  · subst e
    by_cases hl : q < rows'.length
    · rw [List.getElem?_set_self hl] at h'
      injection h' with h'
      injection h' with e1 e2 e3
      subst e1
      exact .inr hA
    · rw [List.set_eq_of_length_le (by omega)] at h'
      exact h q A' c' hi h'
  · rw [List.getElem?_set_ne e] at h'
    exact h i A' c' hi h'
set_option maxHeartbeats 6400000 in
theorem rwrite_any (w : World) (lo rv gb gv cb cv b z N : Nat) (rows sv : List Value) (bs : List UInt8) (vs : List Int) (last : Int) (p n : Nat) (D : Option Addr) (d dc : Nat) (ds : List UInt8) (num : Int) (h : RVolIs w lo rv gb gv cb cv b z N rows sv bs vs last) (hpn : p + n ≤ b)
    (hd : ds.length = d) (hdn : d = n * z) (hdc : d ≤ dc) (hdm : dc ≤ 9223372036854775807) (hD : Rd w D (bys ds)) (hDq : ∀ a, D = some a → a.block ≠ rv ∧ a.block ≠ gb ∧ a.block ≠ gv) :
    Calls Tryd.prog 38 #[.pointer (some ⟨rv, 0, none⟩), .int .i64 p, .slice D d dc, .int .i64 num] w fun e w' => e = .returned (.tuple #[]) ∧ (∃ rows', RVolIs w' lo rv gb gv cb cv b z N rows' sv (splB bs (p * z) ds) (stampL vs p num n) last ∧ RowsNew b z w.heap.size rows rows') ∧ Upd rv gb gv w w' := by
  obtain ⟨hb1, hb2⟩ := h.hb
  obtain ⟨hz1, hz2⟩ := h.hz
  have HD := hide hDq
  have Hd := hide hd
  have hd0 : ds.drop (0 * z) = ds := by rw [Nat.zero_mul]; rfl
  have ht0 : splB bs (p * z) (ds.take (0 * z)) = bs := by unfold splB; simp
  have H0 := hide (And.intro hd0 ht0)
  clear hd0 ht0 hDq hd
  go_enter Tryd.func38, Tryd.ntmps38
  go_wp2
  go_loopw [1, 2] (fun i dv wr => ∃ (j : Nat) (D' : Option Addr) (M c' : Nat) (rows' : List Value), j ≤ n ∧ i = .int .i64 ((p + j : Nat) : Int) ∧ dv = .slice D' M c' ∧ M = (n - j) * z ∧ M ≤ c' ∧ c' ≤ 9223372036854775807 ∧ Rd wr D' (bys (ds.drop (j * z))) ∧ (∀ a, D' = some a → a.block ≠ rv ∧ a.block ≠ gb ∧ a.block ≠ gv) ∧
      RVolIs wr lo rv gb gv cb cv b z N rows' sv (splB bs (p * z) (ds.take (j * z))) (stampL vs p num j) last ∧ Upd rv gb gv w wr ∧ RowsNew b z w.heap.size rows rows') (fun i _ _ => p + n - (intOf i).toNat)
  case atStart => exact ⟨0, D, d, dc, rows, by omega, by simp, rfl, by simpa using hdn, hdc, hdm, by rw [H0.out.1]; exact hD, HD.out, by rw [H0.out.2]; exact h, Upd.of_below (Below.refl _ _), fun i A c hi h => .inl h⟩
  case round =>
    obtain ⟨j, D', M, c', rows', hj, rfl, rfl, hM, hMc, hcm, hDr, hDq, hR, hU, hRN⟩ := hrel
    obtain ⟨q, hq⟩ : ∃ q, p + j = q := ⟨_, rfl⟩
    rw [hq]
    by_cases hlt : j < n
    · have hqb : q < b := by omega
      obtain ⟨zM, hzM⟩ : ∃ x, (n - (j + 1)) * z = x := ⟨_, rfl⟩
      have hMz : M = zM + z := by rw [hM, ← hzM, show n - j = n - (j + 1) + 1 by omega, Nat.add_mul, Nat.one_mul]
      have hx0 := hR.blk.cell (j := 1) rfl
      have hsegl : ((ds.drop (j * z)).take z).length = z := by
        rw [List.length_take, List.length_drop, Hd.out, hdn]
        have : (j + 1) * z ≤ n * z := Nat.mul_le_mul_right _ (by omega)
        rw [Nat.add_mul, Nat.one_mul] at this
        omega
      have hDt : Rd wr D' (bys ((ds.drop (j * z)).take z)) := by rw [bys_take]; exact hDr.take z
      obtain ⟨xs, hxs⟩ : ∃ xs, (ds.drop (j * z)).take z = xs := ⟨_, rfl⟩
      rw [hxs] at hsegl hDt
      have Hxs := hide hxs
      have Hsl := hide hsegl
      have HzM := hide hzM
      have Hq := hide hq
      have hzle : z ≤ M := by omega
      have hMp : 0 < M := by omega
      have HMz := hide hMz
      have HnM := hide (show n * z - j * z ≤ M by rw [hM, Nat.sub_mul]; exact Nat.le_refl _)
      have Hj1 := hide (show splB (splB bs (p * z) (ds.take (j * z))) (q * z) xs = splB bs (p * z) (ds.take ((j + 1) * z)) by
        have hj1 : (j + 1) * z ≤ n * z := Nat.mul_le_mul_right _ (by omega)
        have hpz : (p + n) * z ≤ b * z := Nat.mul_le_mul_right _ hpn
        rw [Nat.add_mul] at hpz
        have hjz : (j + 1) * z = j * z + z := by rw [Nat.add_mul, Nat.one_mul]
        have htl : (ds.take (j * z)).length = j * z := by rw [List.length_take, Hd.out, hdn]; omega
        have := splB_snoc (bs := bs) (o := p * z) (xs := ds.take (j * z)) (ys := xs) (by rw [htl, hsegl, h.lb, ← h.hN]; omega)
        rw [htl, ← Nat.add_mul, hq] at this
        rw [this, hjz, List.take_add, hxs])
      clear hM hxs hsegl hzM hq hMz
      have rvl := hR.blk.lt
      have gbl := hR.row.lt
      have gvl := hR.ver.lt
      -- the world behind the new empty row
      obtain ⟨w1, hw1⟩ : ∃ x, (wr.alloc (.cells #[] 5)).drew = x := ⟨_, rfl⟩
      have hb1' : Below wr.heap.size wr w1 := by rw [← hw1]; exact ((Below.refl _ _).alloc (Nat.le_refl _) _).drew
      have hR1 := hR.below hb1'
      have x2 : wr.drew.cell? ⟨rv, 2, none⟩ = some (.slice (some ⟨gb, 0, none⟩) b cb) := hR.blk.cell (j := 2) rfl
      have x1 : wr.drew.cell? ⟨rv, 1, none⟩ = some (.int .i64 z) := hR.blk.cell (j := 1) rfl
      have a2 : (wr.alloc (.cells #[] 5)).drew.cell? ⟨rv, 2, none⟩ = some (.slice (some ⟨gb, 0, none⟩) b cb) := by rw [hw1]; exact hR1.blk.cell (j := 2) rfl
      have a1 : (wr.alloc (.cells #[] 5)).drew.cell? ⟨rv, 1, none⟩ = some (.int .i64 z) := by rw [hw1]; exact hR1.blk.cell (j := 1) rfl
      have ow : (wr.alloc (.cells #[] 5)).drew.ownsRow wr.heap.size 5 1 (.slice (some ⟨wr.heap.size, 0, none⟩) 0 0) 0 [] := (Grow.empty wr 5 1).drew.owns
      have hDA : Rd (wr.alloc (.cells #[] 5)).drew D' (bys xs) := by rw [hw1]; exact hDt.below hb1'
      have hL0 : (0 + z) * 1 ≤ 140737488355328 := by omega
      have hL1 : 0 + z ≤ 140737488355328 := by omega
      have HRb := hide (fun X (hX : Below wr.heap.size wr X) => hR.below hX)
      have bA : Below wr.heap.size wr (wr.alloc (.cells #[] 5)).drew := by rw [hw1]; exact hb1'
      clear hw1
      have hzc : (z : Int) ≤ (c' : Int) := by omega
      have hzc' : z ≤ c' := by omega
      have hqbI : (q : Int) < (b : Int) := by omega
      go_wp2_with fail
      go_region_law (refine step_own rfl rfl tBytes (by simp [Act.eval, Act.put]) ow (by simp [Act.eval, Act.put]; rfl) (by rw [bys_length, Hsl.out, Nat.mul_one]) hDA (bys_one _) hL0 hL1 (by simp) ?_; intro v' w' ho' hg' _; rw [Nat.zero_add, List.nil_append] at ho'; obtain ⟨A5, c5, rfl, hl5, hc5, hcm5, hr5, ha5⟩ := own_out ho'; have hb5 : Below wr.heap.size wr w' := bA.grown hg' (by simp) (fun g hg => by simp [Value.ownBlock] at hg; omega); have hR5 := HRb.out w' hb5; have e2 := hR5.blk.cell (j := 2) rfl; have e1 := hR5.blk.cell (j := 1) rfl; have zz := hR5.row.frozen q; obtain ⟨A6, c6, k6, _⟩ := hR5.cells q hqb; have y6 := hR5.row.cell k6)
      all_goals
        have hR6 := hR5.setRow hqb (A := A5) (c := c5) (xs := xs) Hsl.out ⟨hc5, by unfold maxLen at hcm5; omega⟩ hr5 (fun a ha => by have h1 := ha5 a ha; have h2 := hR.hlo; exact ⟨by omega, by omega, by omega, by omega⟩)
        have hU6 : Upd rv gb gv wr (w'.setCell ⟨gb, q, none⟩ (.slice A5 z c5)) := (Upd.of_below hb5).trans (Upd.setR w' q _)
        have hA5 : ∀ a, A5 = some a → w.heap.size ≤ a.block := fun a ha => by have h1 := ha5 a ha; have h2 := hU.size; omega
        obtain ⟨w6, hw6⟩ : ∃ x, w'.setCell ⟨gb, q, none⟩ (.slice A5 z c5) = x := ⟨_, rfl⟩
        rw [hw6] at hR6 hU6
        rw [hw6]
        clear hw6 y6 k6 zz e1 e2 x1 x2 a1 a2 ow hDA hR5 hb5 hr5 hl5 hc5 hcm5 ho' hg' ha5
        have y3 := hR6.blk.cell (j := 3) rfl
        have hql : q < (ints (stampL vs p num j) ++ sv).length := by rw [List.length_append, ints_length, hR6.lv]; omega
        have y7 := hR6.ver.cell (List.getElem?_eq_getElem hql)
        have z7 := hR6.ver.frozen q
        have hR7 := hR6.setVer hqb num
        have hU7 : Upd rv gb gv wr (w6.setCell ⟨gv, q, none⟩ (.int .i64 num)) := hU6.trans (Upd.setS w6 q _)
        have y1 := hR7.blk.cell (j := 1) rfl
        have hDr7 := Rd.upd hDr hU7 hDq
        have hRN7 := hRN.set (q := q) (c := c5) hA5
        have hzc2 : z ≤ M := hzle
        go_wp2
        go_roundw
        case rel =>
          refine ⟨j + 1, Px.cutA D' c' z 1, zM, c' - z, rows'.set q (.slice A5 z c5), by omega, by have := Hq.out; go_num, ?_, HzM.out.symm, by have := HMz.out; omega, by omega, ?_, cutA_block (P := fun B => B ≠ rv ∧ B ≠ gb ∧ B ≠ gv) hDq, ?_, hU.trans hU7, hRN7⟩
          · rw [show zM = M - z by have := HMz.out; omega]
          · have := hDr7.cutA (n := M) (k := z) (cap := c') (by rw [bys_length, List.length_drop, Hd.out, hdn]; exact HnM.out) hzle hMc
            rwa [← bys_drop, List.drop_drop, ← Nat.succ_mul] at this
          · rw [← Hj1.out]
            show RVolIs _ _ _ _ _ _ _ _ _ _ _ _ _ ((stampL vs p num j).set (p + j) num) _
            rw [Hq.out]
            exact hR7
        case measure => simp [intOf]; have := Hq.out; omega
    · obtain rfl : j = n := by omega
      have hM0 : M = 0 := by rw [hM]; simp
      subst hM0
      have hdt : ds.take (j * z) = ds := List.take_of_length_le (by rw [Hd.out, hdn]; exact Nat.le_refl _)
      have Hdt := hide hdt
      clear hM hdt
      go_wp2
      go_end0
      exact ⟨rfl, ⟨rows', by rw [← Hdt.out]; exact hR, hRN⟩, hU⟩
end Go.Proofs.YtjilkaciopiabaaDoor
