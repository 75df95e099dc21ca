/- The document's disk: a sector laid anew; Barrier. -/
import Derived.Test.YtdianokikhggnaaF08r
import Derived.Test.YtdianokikhggnaaF08i
namespace Go.Proofs.Ytdianokikhggnaa
set_option maxRecDepth 20000
open Go.RowKit Go.Px Go.Maps
set_option linter.unusedVariables false
section
variable {w w' : World} {Q Q' X : Nat → Prop} {t f : Nat} {cs cs' : List Value} {d d' : Dk}
def Dk.put4 (d : Dk) (i : Nat) (b : List UInt8) (o : Option (List UInt8)) (z : Bool) : Dk := ((d.putF i b).putL (i : Int) o).putB (i : Int) z
theorem Dk.put4_ok (ok : d.Ok) {i : Nat} (hi : i < d.fast.length) {b : List UInt8} {o : Option (List UInt8)} (z : Bool) (hb : b.length = d.size) (ho : ∀ x, o = some x → x.length = d.size) : (d.put4 i b o z).Ok := by
  refine ⟨ok.s1, ok.s2, ?_, ?_, fun x hx => ?_, fun x y hx => ?_, fun x hx => ?_, ok.f1, ok.f2⟩
  · show 1 ≤ (d.fast.set i b).length; rw [List.length_set]; exact ok.n1
  · show (d.fast.set i b).length ≤ _; rw [List.length_set]; exact ok.n2
  · rcases List.mem_or_eq_of_mem_set hx with h | rfl
    · exact ok.fl x h
    · exact hb
  · have hx' : (if x = (i : Int) then o else d.loose x) = some y := hx
    show 0 ≤ x ∧ x < ((d.fast.set i b).length : Int) ∧ _
    rw [List.length_set]
    split at hx'
    · rename_i e; subst e; exact ⟨by omega, by omega, ho y hx'⟩
    · exact ok.lo x y hx'
  · have hx' : (if x = (i : Int) then z else d.bad x) = true := hx
    show 0 ≤ x ∧ x < ((d.fast.set i b).length : Int)
    rw [List.length_set]
    split at hx'
    · rename_i e; subst e; exact ⟨by omega, by omega⟩
    · exact ok.ba x hx'
abbrev w4 (w : World) (f i : Nat) (v0 v1 v2 v3 : Value) : World := (((w.setCell ⟨f, i * 4, none⟩ v0).setCell ⟨f, i * 4 + 1, none⟩ v1).setCell ⟨f, i * 4 + 2, none⟩ v2).setCell ⟨f, i * 4 + 3, none⟩ v3
theorem RDIs.put4 (h : RDIs w Q t f cs d) {i : Nat} (hi : i < d.fast.length) {A B : Option Addr} {n c m e : Nat} {b : List UInt8} {o : Option (List UInt8)} {z ol : Bool} (hol : ol = o.isSome) (hb : b.length = d.size) (hbn : b.length = n) (hnc : n ≤ c) (hc : c ≤ 9223372036854775807) (hr : Rd w A (bys b)) (hA : ∀ a, A = some a → Q a.block) (hme : m ≤ e) (he : e ≤ 9223372036854775807) (ho : ∀ x, o = some x → x.length = d.size ∧ x.length = m ∧ Rd w B (bys x) ∧ ∀ a, B = some a → Q a.block) :
    (∃ cs', RDIs (w4 w f i (.slice A n c) (.bool ol) (.slice B m e) (.bool z)) Q t f cs' (d.put4 i b o z)) ∧ Fr (fun x => x = f) w (w4 w f i (.slice A n c) (.bool ol) (.slice B m e) (.bool z)) := by
  subst hol
  have hlen := h.len
  have hF : Fr (fun x => x = f) w (w4 w f i (.slice A n c) (.bool o.isSome) (.slice B m e) (.bool z)) :=
    (((Fr.set (X := fun x => x = f) w ⟨f, i * 4, none⟩ _ rfl).trans (Fr.set (X := fun x => x = f) _ ⟨f, i * 4 + 1, none⟩ _ rfl)).trans (Fr.set (X := fun x => x = f) _ ⟨f, i * 4 + 2, none⟩ _ rfl)).trans (Fr.set (X := fun x => x = f) _ ⟨f, i * 4 + 3, none⟩ _ rfl)
  have hBk := (((h.row.set (i * 4) (.slice A n c)).set (i * 4 + 1) (.bool o.isSome)).set (i * 4 + 2) (.slice B m e)).set (i * 4 + 3) (.bool z)
  have hk : ∀ A xs, Rd w A xs → (∀ a, A = some a → Q a.block) → Rd (w4 w f i (.slice A n c) (.bool o.isSome) (.slice B m e) (.bool z)) A xs := fun A' xs hr hA => by
    refine hr.fr (X := fun x => x = f) ?_ (fun _ a ha e => (h.out _ (hA a ha)).2 e)
    exact (((Fr.set (X := fun x => x = f) w ⟨f, i * 4, none⟩ _ rfl).trans (Fr.set (X := fun x => x = f) _ ⟨f, i * 4 + 1, none⟩ _ rfl)).trans (Fr.set (X := fun x => x = f) _ ⟨f, i * 4 + 2, none⟩ _ rfl)).trans (Fr.set (X := fun x => x = f) _ ⟨f, i * 4 + 3, none⟩ _ rfl)
  have hl2 : (d.put4 i b o z).fast.length = d.fast.length := by show (d.fast.set i b).length = _; rw [List.length_set]
  refine ⟨⟨_, h.upd hi hBk hF (by simp) (fun j hj => by rw [List.getElem?_set_ne (by omega), List.getElem?_set_ne (by omega), List.getElem?_set_ne (by omega), List.getElem?_set_ne (by omega)]) (fun hi' => ?_) rfl hl2 rfl (fun j hj => by show (d.fast.set i b)[j]? = _; rw [List.getElem?_set_ne (fun e => hj e.symm)]) (fun x hx => if_neg hx) (fun x hx => if_neg hx) (Dk.put4_ok h.ok hi z hb (fun x hx => (ho x hx).1))⟩, hF⟩
  have e1 : (d.put4 i b o z).loose (i : Int) = o := if_pos rfl
  have e2 : (d.put4 i b o z).bad (i : Int) = z := if_pos rfl
  have e3 : (d.put4 i b o z).fast[i] = b := by show (d.fast.set i b)[i]'(by rw [List.length_set]; exact hi) = b; rw [List.getElem_set_self]
  rw [e1, e2, e3]
  refine ⟨A, n, c, B, m, e, ?_, ?_, ?_, ?_, hbn, hnc, hc, hr.fr hF (fun _ a ha e => (h.out _ (hA a ha)).2 e), hA, hme, he, fun x hx => ⟨(ho x hx).2.1, (ho x hx).2.2.1.fr hF (fun _ a ha e => (h.out _ ((ho x hx).2.2.2 a ha)).2 e), (ho x hx).2.2.2⟩⟩
  · rw [List.getElem?_set_ne (by omega), List.getElem?_set_ne (by omega), List.getElem?_set_ne (by omega), List.getElem?_set_self (by omega)]
  · rw [List.getElem?_set_ne (by omega), List.getElem?_set_ne (by omega), List.getElem?_set_self (by simp; omega)]
  · rw [List.getElem?_set_ne (by omega), List.getElem?_set_self (by simp; omega)]
  · rw [List.getElem?_set_self (by simp; omega)]
/-- The loose sectors below k. -/
def Dk.lows (d : Dk) (k : Nat) : List Int := ((List.range k).map Int.ofNat).filter fun i => (d.loose i).isSome
theorem Dk.lows_succ (d : Dk) (k : Nat) : d.lows (k + 1) = d.lows k ++ (if (d.loose (k : Int)).isSome = true then [(k : Int)] else []) := looseL_upto d k
theorem Dk.lows_lt (d : Dk) (k : Nat) : ∀ x ∈ d.lows k, 0 ≤ x ∧ x < (k : Int) := fun x hx => by
  obtain ⟨j, hj, rfl⟩ := List.mem_map.1 (List.mem_filter.1 hx).1
  rw [List.mem_range] at hj
  show 0 ≤ ((j : Nat) : Int) ∧ ((j : Nat) : Int) < _
  omega
theorem Dk.fastAll_snoc (d : Dk) (l : List Int) (x : Int) : d.fastAll (l ++ [x]) = (d.fastAll l).fasten x.toNat (((d.fastAll l).loose x).getD []) := by
  unfold Dk.fastAll
  rw [List.foldl_append]; rfl
set_option maxHeartbeats 3200000 in
theorem rbarrier08_any (h : RDIs w Q t f cs d) : Calls Try.prog 28 #[.pointer (some ⟨t, 0, none⟩)] w fun e w' => e = .returned (.int .i64 d.burnE) ∧ (∃ cs', RDIs w' Q t f cs' d.barrier) ∧ Fr (ROwn t f) w w' := by
  have hBU := rpower08_any h
  have hlts := h.lts
  rcases d.burnE_two with ⟨h1, h2⟩ | ⟨h1, h2, h3⟩
  · have hba : d.barrier = d.burnt.fastAll (d.burnt.lows d.burnt.fast.length) := if_pos h1
    rw [h1] at hBU ⊢
    rw [hba]
    obtain ⟨d', hd'⟩ : ∃ d', d.burnt = d' := ⟨_, rfl⟩
    rw [hd'] at hBU ⊢
    have hBU' : Calls Try.prog 47 #[.pointer (some ⟨t, 0, none⟩)] w fun e w' => e = .returned (.bool true) ∧ RDIs w' Q t f cs d' ∧ Fr (fun x => x = t) w w' ∧ w'.heap.size = w.heap.size := hBU
    obtain ⟨N, hNe⟩ : ∃ N, d'.fast.length = N := ⟨_, rfl⟩
    rw [hNe]
    have HBU := hide hBU'
    have HN := hide hNe
    clear h hBU hBU' h1 h2 hba hd' hNe
    go_enter Try.func28, Try.ntmps28
    go_wp2_with fail
    refine HBU.out.mono ?_
    rintro x w2 ⟨rfl, hD2, hF2, hz2⟩
    have hN2 := hD2.ok.n2
    rw [HN.out] at hN2
    have hlo := hD2.ok.lo
    have Hlo := hide hlo
    clear hlo HBU
    go_wp2_with fail
    go_loopw [3] (fun s W => ∃ k : Nat, s = .int .i64 (k : Int) ∧ k ≤ N ∧ (∃ cs, RDIs W Q t f cs (d'.fastAll (d'.lows k))) ∧ Fr (ROwn t f) w W) (fun s _ => N - (RowKit.intOf s).toNat)
    case atStart => exact ⟨0, rfl, by omega, ⟨_, hD2⟩, rown_t hF2⟩
    case round =>
      obtain ⟨k, rfl, hkm, ⟨csk, hDk⟩, hFk⟩ := hrel
      have hsame := Dk.fastAll_same (d'.lows k) d'
      have hfl := Dk.fastAll_loose (d'.lows k) d' (fun y hy => (d'.lows_lt k y hy).1) (k : Int)
      rw [if_neg (fun hm => by have := d'.lows_lt k _ hm; omega)] at hfl
      obtain ⟨cb, bb, _⟩ := hDk.blk
      have y1 := bb.cell (j := 1) rfl
      rw [hsame.2.1, HN.out] at y1
      have hsc := d'.lows_succ k
      have hsn := d'.fastAll_snoc (d'.lows k) (k : Int)
      rw [hfl, Int.toNat_natCast] at hsn
      by_cases hlt : k < N
      · have hkl : k < (d'.fastAll (d'.lows k)).fast.length := by rw [hsame.2.1, HN.out]; exact hlt
        obtain ⟨A, n, c, B, m, e, c0, c1, c2, c3, _, _, _, _, _, e1, e2, e3⟩ := hDk.at_ hkl
        rw [hfl] at c1 e3
        have HFk := hide hFk
        clear hFk
        cases hl : d'.loose (k : Int) with
        | none =>
          rw [hl] at c1 hsc
          have hnx := hide (show d'.lows (k + 1) = d'.lows k by rw [hsc]; simp)
          have HDk := hide hDk
          clear hl hsc hsn hDk bb hfl hsame e3
          go_wp2
          go_roundw
          case rel => exact ⟨k + 1, by go_num, by omega, ⟨csk, by rw [hnx.out]; exact HDk.out⟩, HFk.out⟩
          case measure => simp [RowKit.intOf]; omega
        | some bs =>
          rw [hl] at c1 hsc hsn
          obtain ⟨g1, g2, g3⟩ := e3 bs hl
          have hbl := (Hlo.out _ _ hl).2.2
          have hnx : d'.fastAll (d'.lows (k + 1)) = (d'.fastAll (d'.lows k)).put4 k bs none false := by rw [hsc]; simp only [Option.isSome_some, if_true]; exact hsn
          obtain ⟨hP, hPF⟩ := hDk.put4 hkl (o := none) (z := false) (ol := false) rfl (by rw [hbl, hsame.1]) g1 e1 e2 g2 g3 (Nat.zero_le 0) (by omega) (fun x hx => by cases hx) (B := none) (m := 0) (e := 0)
          have hb9 := fun W : World => (Below.refl W.heap.size W).drew
          have HP := hide (show ∃ cs', RDIs (w4 wr f k (.slice B m e) (.bool false) (.slice none 0 0) (.bool false)).drew Q t f cs' (d'.fastAll (d'.lows (k + 1))) from by
            obtain ⟨cs', hP⟩ := hP
            exact ⟨cs', by rw [hnx]; exact hP.below (hb9 _)⟩)
          have HPF := hide (HFk.out.trans (rown_f (t := t) hPF).drew)
          have j0 := hDk.row.frozen (k * 4)
          have j1 := hDk.row.frozen (k * 4 + 1)
          have j2 := hDk.row.frozen (k * 4 + 2)
          have j3 := hDk.row.frozen (k * 4 + 3)
          have y1d : wr.drew.cell? ⟨t, 1, none⟩ = some (.slice (some ⟨f, 0, none⟩) N cb) := y1
          have c2d : wr.drew.cell? ⟨f, k * 4 + 2, none⟩ = some (.slice B m e) := c2
          clear hl hsc hsn hDk bb hfl hsame e3 hnx hP hPF hb9 g1 g2 g3 hbl
          go_wp2_with fail
          go_region
          go_wp2
          go_roundw
          case rel => exact ⟨k + 1, by go_num, by omega, HP.out, HPF.out⟩
          case measure => simp [RowKit.intOf]; omega
      · have hke : k = N := by omega
        subst hke
        have HD := hide (show ∃ cs, RDIs wr Q t f cs (d'.fastAll (d'.lows k)) from ⟨csk, hDk⟩)
        have HF := hide hFk
        clear hDk hFk hsc hsn hfl hsame bb
        go_wp2
        go_ret
        exact ⟨rfl, HD.out, HF.out⟩
  · have hba : d.barrier = d := if_neg (by rw [h1]; decide)
    rw [h1, h3] at hBU
    rw [h1, hba]
    have hBU' : Calls Try.prog 47 #[.pointer (some ⟨t, 0, none⟩)] w fun e w' => e = .returned (.bool false) ∧ RDIs w' Q t f cs d ∧ Fr (fun x => x = t) w w' ∧ w'.heap.size = w.heap.size := hBU
    have HBU := hide hBU'
    clear h hBU hBU' h1 h2 h3 hba
    go_enter Try.func28, Try.ntmps28
    go_wp2_with fail
    refine HBU.out.mono ?_
    rintro x w2 ⟨rfl, hD2, hF2, hz2⟩
    have HD2 := hide (show ∃ cs', RDIs w2 Q t f cs' d from ⟨_, hD2⟩)
    have HF2 := hide (rown_t (f := f) hF2)
    clear hD2 hF2
    go_wp2
    go_ret
    exact ⟨rfl, HD2.out, HF2.out⟩
end
end Go.Proofs.Ytdianokikhggnaa
