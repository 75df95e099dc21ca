/- Package sector: Barrier, Bad. -/
import Derived.Test.YtdianokikhggnaaF08h
namespace Go.Proofs.Ytdianokikhggnaa
set_option maxRecDepth 20000
open Go.RowKit Go.Px Go.Maps
set_option linter.unusedVariables false
section
variable {w : World} {Q : Nat → Prop} {t f lm bm : Nat} {d : Dk}
/-- What is loose, read for itself. -/
theorem DIs.look_some (h : DIs w Q t f lm bm d) {i : Int} {bs : List UInt8} (hl : d.loose i = some bs) :
    ∃ A n c, (Instr.lookup 56 (.map (some lm)) (.int .i64 i) false).run Try.prog w = .ok (.slice A n c) w ∧ bs.length = n ∧ n ≤ c ∧ c ≤ 9223372036854775807 ∧ Rd w A (bys bs) ∧ ∀ a, A = some a → Q a.block := by
  obtain ⟨D, l1, l2⟩ := h.lo
  have ha := l2 i
  have hi := h.ok.lo i bs hl
  have hN := h.ok.n2
  obtain ⟨v, ps, hr, hv⟩ := l1.lookup keyed08 Try.underlying56 (zero_bytes08 w) (zd := .held (.slice none 0 0)) (zp := []) rfl (key08 (c := i) (by omega) (by omega))
  rw [hl] at ha
  obtain ⟨h0, A, n, c, ha1, hrest⟩ := ha
  rw [ha1] at hv
  injection hv with hv
  injection hv with hv _
  injection hv with hv
  rw [hv] at hr
  exact ⟨A, n, c, hr, hrest⟩
/-- Each of some sectors made fast. -/
def Dk.fastAll (d : Dk) (l : List Int) : Dk := l.foldl (fun d i => d.fasten i.toNat ((d.loose i).getD [])) d
theorem Dk.fastAll_succ {d : Dk} {l : List Int} {k : Nat} (hk : k < l.length) : d.fastAll (l.take (k + 1)) = (d.fastAll (l.take k)).fasten (l[k]).toNat (((d.fastAll (l.take k)).loose l[k]).getD []) := by
  unfold Dk.fastAll
  rw [List.take_succ_eq_append_getElem hk, List.foldl_append]; rfl
theorem Dk.fasten_same (d : Dk) (i : Nat) (b : List UInt8) : (d.fasten i b).size = d.size ∧ (d.fasten i b).fast.length = d.fast.length ∧ (d.fasten i b).fuse = d.fuse := ⟨rfl, by show (d.fast.set i b).length = _; rw [List.length_set], rfl⟩
theorem Dk.fastAll_same (l : List Int) : ∀ d : Dk, (d.fastAll l).size = d.size ∧ (d.fastAll l).fast.length = d.fast.length ∧ (d.fastAll l).fuse = d.fuse := by
  induction l with
  | nil => exact fun d => ⟨rfl, rfl, rfl⟩
  | cons x l ih =>
    intro d
    have h1 := ih (d.fasten x.toNat ((d.loose x).getD []))
    have h2 := d.fasten_same x.toNat ((d.loose x).getD [])
    exact ⟨h1.1.trans h2.1, h1.2.1.trans h2.2.1, h1.2.2.trans h2.2.2⟩
theorem Dk.fasten_loose (d : Dk) (i : Nat) (b : List UInt8) (x : Int) : (d.fasten i b).loose x = if x = (i : Int) then none else d.loose x := rfl
theorem Dk.fasten_bad (d : Dk) (i : Nat) (b : List UInt8) (x : Int) : (d.fasten i b).bad x = if x = (i : Int) then false else d.bad x := rfl
theorem Dk.fastAll_loose (l : List Int) : ∀ d : Dk, (∀ y ∈ l, 0 ≤ y) → ∀ x, (d.fastAll l).loose x = if x ∈ l then none else d.loose x := by
  induction l with
  | nil => intro d _ x; rfl
  | cons y l ih =>
    intro d h0 x
    have hy : ((y.toNat : Nat) : Int) = y := by have := h0 y (List.mem_cons_self ..); omega
    have h1 := ih (d.fasten y.toNat ((d.loose y).getD [])) (fun z hz => h0 z (List.mem_cons_of_mem _ hz)) x
    show (Dk.fastAll (d.fasten y.toNat ((d.loose y).getD [])) l).loose x = _
    rw [h1, Dk.fasten_loose, hy]
    by_cases hx : x ∈ l
    · rw [if_pos hx, if_pos (List.mem_cons_of_mem _ hx)]
    · rw [if_neg hx]
      by_cases hxy : x = y
      · rw [if_pos hxy, if_pos (by rw [hxy]; exact List.mem_cons_self ..)]
      · rw [if_neg hxy, if_neg (fun h => by rcases List.mem_cons.1 h with h | h; exact hxy h; exact hx h)]
theorem Dk.looseL_get {d : Dk} (ok : d.Ok) {k : Nat} (hk : k < d.looseL.length) : ∃ bs, d.loose d.looseL[k] = some bs ∧ 0 ≤ d.looseL[k] ∧ d.looseL[k] < d.fast.length ∧ bs.length = d.size ∧ d.looseL[k] ∉ d.looseL.take k := by
  obtain ⟨bs, hb⟩ := Option.isSome_iff_exists.1 ((Dk.mem_looseL ok).1 (List.getElem_mem hk))
  obtain ⟨o1, o2, o3⟩ := ok.lo _ bs hb
  refine ⟨bs, hb, o1, o2, o3, fun hm => ?_⟩
  obtain ⟨j, hj, he⟩ := List.getElem_of_mem hm
  rw [List.length_take] at hj
  rw [List.getElem_take] at he
  have := List.pairwise_iff_getElem.1 d.looseL_asc j k (by omega) hk (by omega)
  omega
def Dk.barrier (d : Dk) : Dk := if d.burnE = 0 then d.burnt.fastAll d.burnt.looseL else d
theorem Dk.burnE_two (d : Dk) : (d.burnE = 0 ∧ d.fuse ≠ 0) ∨ (d.burnE = 82 ∧ d.fuse = 0 ∧ d.burnt = d) := by
  unfold Dk.burnE Dk.burnt
  by_cases h : d.fuse = 0
  · right; rw [if_pos h, if_neg (by omega)]; exact ⟨rfl, h, rfl⟩
  · left; rw [if_neg h]; exact ⟨rfl, h⟩
set_option maxHeartbeats 1600000 in
theorem barrier08_any (h : DIs w Q t f lm bm d) : Calls Try.prog 13 #[.pointer (some ⟨t, 0, none⟩)] w fun e w' => e = .returned (.int .i64 d.burnE) ∧ DIs w' Q t f lm bm d.barrier ∧ Fr (OwnB t f lm bm) w w' := by
  have HM := hide (made08_any h)
  have hBU := burn08_any h
  have hlts := h.lts
  rcases d.burnE_two with ⟨h1, h2⟩ | ⟨h1, h2, h3⟩
  · have hba : d.barrier = d.burnt.fastAll d.burnt.looseL := if_pos h1
    rw [h1] at hBU ⊢
    rw [hba]
    obtain ⟨d', hd'⟩ : ∃ d', d.burnt = d' := ⟨_, rfl⟩
    rw [hd'] at hBU ⊢
    obtain ⟨L, hL⟩ : ∃ L, d'.looseL = L := ⟨_, rfl⟩
    rw [hL]
    have HL := hide hL
    have HBU := hide hBU
    clear hL
    clear h hBU h1 h2 hba hd'
    go_enter Try.func13, Try.ntmps13
    go_wp2_with fail
    go_fit HM.out
    rintro x w1 ⟨rfl, rfl⟩
    go_wp2_with fail
    refine HBU.out.mono ?_
    rintro x w2 ⟨rfl, hD2, hF2, hz2⟩
    have HLO := hide (loose08_any hD2)
    have ok := hD2.ok
    have HD2 := hide hD2
    clear hD2
    go_wp2_with fail
    refine HLO.out.mono ?_
    rintro x w3 ⟨A, c, rfl, hLc, hc, hr3, hA3, hb3⟩
    have hD3 := HD2.out.below hb3
    have hF3 : Fr (OwnB t f lm bm) w w3 := (fr_own hF2 (.inl rfl)).trans (Fr.of_below hb3)
    have hN := ok.n2
    have hll := d'.looseL_len
    have hL := HL.out
    rw [hL] at hLc hr3 hll ⊢
    have hget : ∀ (k : Nat) (hk : k < L.length), ∃ bs, d'.loose L[k] = some bs ∧ 0 ≤ L[k] ∧ L[k] < d'.fast.length ∧ bs.length = d'.size ∧ L[k] ∉ L.take k := by subst hL; exact fun k hk => Dk.looseL_get ok hk
    have h0L : ∀ y ∈ L, 0 ≤ y := fun y hy => by
      rw [← hL] at hy
      obtain ⟨b, hb⟩ := Option.isSome_iff_exists.1 ((Dk.mem_looseL ok).1 hy)
      exact (ok.lo _ b hb).1
    obtain ⟨m, hm⟩ : ∃ m, L.length = m := ⟨_, rfl⟩
    rw [hm] at hLc hll ⊢
    have Hget := hide hget
    have H0L := hide h0L
    have Hm := hide hm
    have hnA : ∀ a, A = some a → ¬ OwnB t f lm bm a.block := fun a ha hx => by
      have := hA3 a ha
      rcases hx with h | h | h | h <;> omega
    have HnA := hide hnA
    clear hL hget h0L hm hnA HLO HBU
    go_wp2_with fail
    go_loopw [5, 17] (fun _ s W => ∃ k : Nat, s = .int .i64 (k : Int) ∧ k ≤ m ∧ DIs W Q t f lm bm (d'.fastAll (L.take k)) ∧ Fr (OwnB t f lm bm) w W ∧ Rd W A (ints L)) (fun _ s _ => m - (RowKit.intOf s).toNat)
    case atStart => exact ⟨0, rfl, by omega, by rw [List.take_zero]; exact hD3, hF3, hr3⟩
    case round =>
      obtain ⟨k, rfl, hkm, hDk, hFk, hrk⟩ := hrel
      by_cases hlt : k < m
      · have hkl : k < L.length := by rw [Hm.out]; exact hlt
        obtain ⟨a, ha, hca⟩ := hrk k _ (ints_get hkl)
        obtain ⟨bs, g1, g2, g3, g4, g5⟩ := Hget.out k hkl
        have hlk : (d'.fastAll (L.take k)).loose L[k] = some bs := by
          rw [Dk.fastAll_loose _ _ (fun y hy => H0L.out y (List.mem_of_mem_take hy)), if_neg g5]; exact g1
        obtain ⟨A6, n6, c6, hlook, e1, e2, e3, e4, e5⟩ := hDk.look_some hlk
        have hsame := Dk.fastAll_same (L.take k) d'
        have hnext := Dk.fastAll_succ (d := d') hkl
        rw [hlk] at hnext
        obtain ⟨i, hi⟩ : ∃ i : Nat, L[k] = (i : Int) := ⟨(L[k]).toNat, by omega⟩
        rw [hi] at hca hlook g3 hnext
        rw [Int.toNat_natCast] at hnext
        have HFA := hide (fasten08_any hDk i A6 n6 c6 bs (by rw [hsame.2.1]; omega) (by rw [hsame.1]; exact g4) ⟨A6, n6, c6, rfl, e2, e3, .inr ⟨e1, e4, e5⟩⟩)
        have Hnext := hide (show d'.fastAll (L.take (k + 1)) = (d'.fastAll (L.take k)).fasten i bs from hnext)
        obtain ⟨cb, bb, _⟩ := hDk.blk
        have y2 := bb.cell (j := 2) rfl
        subst ha
        have HFk := hide hFk
        have Hrk := hide hrk
        clear bb hnext hsame g1 g2 g3 g4 g5 hlk hi e1 e2 e3 e4 e5 hDk hFk hrk
        go_wp2_with fail
        refine HFA.out.mono ?_
        rintro x w6 ⟨rfl, hD6, hF6⟩
        rw [← Hnext.out] at hD6
        have HD6 := hide hD6
        have HF6 := hide (HFk.out.trans hF6)
        have Hr6 := hide (Hrk.out.fr hF6 (fun _ x hx => HnA.out x hx))
        clear hD6 hF6
        go_wp2
        go_roundw
        case rel => exact ⟨k + 1, by go_num, by omega, HD6.out, HF6.out, Hr6.out⟩
        case measure => simp [RowKit.intOf]; omega
      · have hke : L.take k = L := List.take_of_length_le (by rw [Hm.out]; omega)
        rw [hke] at hDk
        have HD := hide hDk
        have HF := hide hFk
        clear hke hDk hFk hrk
        go_wp2
        go_ret
        exact ⟨rfl, HD.out, HF.out⟩
  · have hba : d.barrier = d := if_neg (by rw [h1]; decide)
    rw [h1, h3] at hBU
    rw [h1, hba]
    have HBU := hide hBU
    clear h hBU h1 h2 h3 hba
    go_enter Try.func13, Try.ntmps13
    go_wp2_with fail
    go_fit HM.out
    rintro x w1 ⟨rfl, rfl⟩
    go_wp2_with fail
    refine HBU.out.mono ?_
    rintro x w2 ⟨rfl, hD2, hF2, hz2⟩
    have HD2 := hide hD2
    have HF2 := hide (fr_own (f := f) (lm := lm) (bm := bm) hF2 (.inl rfl))
    clear hD2 hF2
    go_wp2
    go_ret
    exact ⟨rfl, HD2.out, HF2.out⟩
end
end Go.Proofs.Ytdianokikhggnaa
