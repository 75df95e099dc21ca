/- Texts joined (shake.py). -/
import Derived.Test.YtoaodmidegkolaaGreatDoorK910
namespace Go.Proofs.YtoaodmidegkolaaGreatDoor
set_option maxRecDepth 20000
open Go.RowKit Go.Px Go.Maps
set_option linter.unusedVariables false
@[go_sem] theorem eqnil_rows08 (w : World) (A : Option Addr) (n c n' c' : Nat) : (binOp .eql 44 (.slice A n c) (.slice none n' c')).run Tryz.prog w = .ok (.bool A.isNone) w := Lib.run_eql_slice_nil w _ _ A n c n' c' Tryz.underlying44
section
variable {w w' : World} {Q Q' X : Nat → Prop} {t f lm bm : Nat} {cs cs' : List Value} {d d' : Dk}
/-- slices.Clone of a row of sectors. -/
theorem sclone08_any (a : Addr) (n c : Nat) (xs : List Value) (w : World) (hn : xs.length = n) (h8 : n ≤ 65536) (hc : Rd w (some a) xs) (h1 : ∀ u ∈ xs, u.oneCell' = true) :
    Calls Tryz.prog 22 #[.slice (some a) n c] w fun e w' => ∃ v, e = .returned v ∧ w'.ownsRow w.heap.size 51 1 v n xs ∧ Below w.heap.size w w' := by
  have Hn := hide hn
  clear hn
  go_enter Tryz.func22, Tryz.ntmps22
  go_wp2_with (first | (with_reducible refine stop_append rfl ?_) | (with_reducible refine stop_copy rfl ?_) | (with_reducible refine stop_make rfl ?_))
  refine (Grow.empty w 51 1).append rfl rfl tByteRows rfl rfl (by rw [Hn.out]; omega) (hc.alloc _) h1 (by omega) (by omega) ?_
  intro v' w1 hG _
  go_wp2
  go_ret
  refine ⟨_, rfl, by simpa using hG.owns, hG.emptyAll⟩
theorem SecIs.one {v : Value} {bs : List UInt8} (h : SecIs w Q v bs) : v.oneCell' = true := by
  obtain ⟨A, n, c, rfl, _⟩ := h
  rfl
theorem LoIs.low (h5 : d.Ok) {D : DataW Value} {i : Int} (hl : LoIs w Q D i (d.loose i)) : LoIs w (fun b => Q b ∧ b < w.heap.size) D i (d.loose i) := by
  cases hm : d.loose i with
  | none => rw [hm] at hl; exact hl
  | some bs =>
    rw [hm] at hl
    obtain ⟨q0, A, n, c, q1, q2, q3, q4, q5, q6⟩ := hl
    refine ⟨q0, A, n, c, q1, q2, q3, q4, q5, fun a ha => ⟨q6 a ha, ?_⟩⟩
    refine rd_block q5 (fun e => ?_) a ha
    have h8 := (h5.lo i bs hm).2.2
    have h9 := h5.s1
    have : bs = [] := by simpa [bys] using e
    rw [this] at h8
    simp at h8
    omega
/-- A copy's blocks: the same disk, its bytes shared. -/
theorem DIs.twin (h : DIs w Q t f lm bm d) {W : World} {t2 l2 b2 : Nat} {v : Value} {cs : List Value} (hr3 : ∀ (i : Nat) (b : List UInt8), d.fast[i]? = some b → ∃ v, cs[i]? = some v ∧ SecIs w Q v b) (hcl : d.fast.length ≤ cs.length)
    (hb : Below w.heap.size w W) (ht2 : w.heap.size ≤ t2) (hl2 : w.heap.size ≤ l2) (hb2 : w.heap.size ≤ b2)
    (hO : W.ownsRow w.heap.size 51 1 v d.fast.length (cs.take d.fast.length)) (hB : Blk W t2 [.int .i64 (d.size : Int), v, .map (some l2), .map (some b2), .int .i64 d.fuse] 48)
    {D E : DataW Value} (hL : W.ownsMap Tryz.prog 3 rdS l2 (Maps.size D) D) (hLo : ∀ i, LoIs w Q D i (d.loose i)) (hM : W.ownsMap Tryz.prog 3 unitElem b2 (Maps.size E) E) (hBa : ∀ i, Maps.has E (.int .i64 i) = d.bad i)
    (hn1 : v.ownBlock ≠ some t2) (hn2 : v.ownBlock ≠ some l2) (hn3 : v.ownBlock ≠ some b2) (hd : t2 ≠ l2 ∧ t2 ≠ b2 ∧ l2 ≠ b2) :
    ∃ f2, DIs W (fun b => Q b ∧ b < w.heap.size) t2 f2 l2 b2 d ∧ w.heap.size ≤ f2 := by
  have hl := h.low
  have hk : ∀ A xs, Rd w A xs → (∀ a, A = some a → (fun b => Q b ∧ b < w.heap.size) a.block) → Rd W A xs := fun A xs hr _ => hr.below hb
  obtain ⟨⟨c0, q1, q2⟩, ⟨cs0, r1, r2, r3⟩, _, _, h5, h6, h7⟩ := hl
  have hn := h5.n1
  obtain ⟨hx, hcase⟩ := hO
  rcases hcase with ⟨_, hnn⟩ | ⟨g, cap, cur, rfl, hbg, hg, hnc, hcm, hcs, htk⟩
  · omega
  · have hgt : g ≠ t2 := fun e => hn1 (by rw [e]; rfl)
    have hgl : g ≠ l2 := fun e => hn2 (by rw [e]; rfl)
    have hgb : g ≠ b2 := fun e => hn3 (by rw [e]; rfl)
    refine ⟨g, ⟨⟨cap, hB, hnc, hcm⟩, ⟨cur.toList, by simpa [Blk] using hg, by simp only [Array.length_toList, hcs]; omega, fun i b hi => ?_⟩, ⟨D, hL, fun i => ((hLo i).low h5).keep hk (fun b hb => hb)⟩, ⟨E, hM, hBa⟩, h5, ⟨fun e => hgt e.symm, hd.1, hd.2.1, hgl, hgb, hd.2.2⟩, fun b hb => ⟨by omega, by omega, by omega, by omega⟩⟩, hbg⟩
    obtain ⟨v0, hv0, hs0⟩ := r3 i b hi
    obtain ⟨v1, hv1, hs1⟩ := hr3 i b hi
    have hi2 : i < d.fast.length := (List.getElem?_eq_some_iff.1 hi).1
    have e : (cur.toList.take d.fast.length)[i]? = (cs.take d.fast.length)[i]? := by
      have : cur.toList.take d.fast.length = cs.take d.fast.length := by simpa using htk
      rw [this]
    rw [List.getElem?_take, List.getElem?_take, if_pos hi2, if_pos hi2] at e
    refine ⟨v1, by rw [e, hv1], ?_⟩
    have hsl : SecIs w (fun b => Q b ∧ b < w.heap.size) v1 b := by
      obtain ⟨A, n, c, f1, f2, f3, f4 | ⟨f4, f5, f6⟩⟩ := hs1
      · exact ⟨A, n, c, f1, f2, f3, .inl f4⟩
      · refine ⟨A, n, c, f1, f2, f3, .inr ⟨f4, f5, fun a ha => ⟨f6 a ha, ?_⟩⟩⟩
        refine rd_block f5 (fun e => ?_) a ha
        have h8 := h5.fl b (List.mem_of_getElem? hi)
        have h9 := h5.s1
        have : b = [] := by simpa [bys] using e
        rw [this] at h8
        simp at h8
        omega
    exact hsl.keep hk (fun b hb => hb)
set_option maxHeartbeats 3200000 in
theorem copy08_any (h : DIs w Q t f lm bm d) : Calls Tryz.prog 9 #[.pointer (some ⟨t, 0, none⟩)] w fun e w' => ∃ t2 f2 l2 b2, e = .returned (.pointer (some ⟨t2, 0, none⟩)) ∧ DIs w' (fun b => Q b ∧ b < w.heap.size) t2 f2 l2 b2 d ∧ (∀ b, OwnB t2 f2 l2 b2 b → w.heap.size ≤ b) ∧ Below w.heap.size w w' := by
  have HMD := hide (made08_any h)
  obtain ⟨cc, b1, hcc, hcc2⟩ := h.blk
  have x0 := b1.cell (j := 0) rfl
  have x1 := b1.cell (j := 1) rfl
  have x2 := b1.cell (j := 2) rfl
  have x3 := b1.cell (j := 3) rfl
  have x4 := b1.cell (j := 4) rfl
  have hN := h.ok.n2
  obtain ⟨cs, r1, r2, r3⟩ := h.row
  obtain ⟨D, l1, l1o⟩ := h.lo
  obtain ⟨E, e1, e1o⟩ := h.ba
  have hrow : Rd w (some ⟨f, 0, none⟩) (cs.take d.fast.length) := Rd.of_some fun j u hu => by
    rw [List.getElem?_take] at hu
    split at hu
    · have := r1.cell hu
      rwa [show (⟨f, 0, none⟩ : Addr).add j = ⟨f, j, none⟩ by unfold Addr.add; split <;> simp_all]
    · cases hu
  have hone : ∀ u ∈ cs.take d.fast.length, u.oneCell' = true := fun u hu => by
    obtain ⟨j, hj, hju⟩ := List.mem_iff_getElem.1 hu
    rw [List.length_take] at hj
    rw [List.getElem_take] at hju
    obtain ⟨v, hv, hs⟩ := r3 j _ (List.getElem?_eq_getElem (show j < d.fast.length by omega))
    rw [List.getElem?_eq_getElem (show j < cs.length by omega), hju] at hv
    injection hv with hv
    rw [hv]; exact hs.one
  have hyl : (cs.take d.fast.length).length = d.fast.length := by rw [List.length_take]; omega
  have HTW := hide (fun (W : World) t2 l2 b2 v => fun p1 p2 p3 p4 p5 p6 (hL : W.ownsMap Tryz.prog 3 rdS l2 (Maps.size D) D) (hM : W.ownsMap Tryz.prog 3 unitElem b2 (Maps.size E) E) => h.twin (W := W) (t2 := t2) (l2 := l2) (b2 := b2) (v := v) r3 r2 p1 p2 p3 p4 p5 p6 hL l1o hM e1o)
  have HCL := hide (fun (W : World) (D : DataW Value) (hD : W.ownsMap Tryz.prog 3 rdS lm (Maps.size D) D) => AnyW.maps_Clone_owns Tryz.cloneL 3 rdS lm (Maps.size D) D W hD)
  have HCB := hide (fun (W : World) (D : DataW Value) (hD : W.ownsMap Tryz.prog 3 unitElem bm (Maps.size D) D) => AnyW.maps_Clone_owns Tryz.cloneB 3 unitElem bm (Maps.size D) D W hD)
  have HBL := hide (fun (W : World) (hW : Below w.heap.size w W) (D : DataW Value) (hD : w.ownsMap Tryz.prog 3 rdS lm (Maps.size D) D) => own_fr hD (Fr.of_below (X := fun _ => False) hW) (fun h => h))
  have HBB := hide (fun (W : World) (hW : Below w.heap.size w W) (D : DataW Value) (hD : w.ownsMap Tryz.prog 3 unitElem bm (Maps.size D) D) => own_fr hD (Fr.of_below (X := fun _ => False) hW) (fun h => h))
  obtain ⟨ys, hys⟩ : ∃ ys, cs.take d.fast.length = ys := ⟨_, rfl⟩
  rw [hys] at hrow hone hyl HTW
  obtain ⟨N, hNe⟩ : ∃ N, d.fast.length = N := ⟨_, rfl⟩
  obtain ⟨S, hS⟩ : ∃ S, d.size = S := ⟨_, rfl⟩
  obtain ⟨F, hF⟩ : ∃ F, d.fuse = F := ⟨_, rfl⟩
  rw [hNe] at x1 hN hyl HTW
  rw [hS] at x0 HTW
  rw [hF] at x4 HTW
  obtain ⟨wd, hwd⟩ : ∃ y, w.drew = y := ⟨_, rfl⟩
  have hdd : Below w.heap.size w wd := by rw [← hwd]; exact (Below.refl _ _).drew
  have hzd : wd.heap.size = w.heap.size := by rw [← hwd]; rfl
  have hSt : ∀ Z, Below w.heap.size w Z → Z.cell? ⟨t, 0, none⟩ = some (.int .i64 (S : Int)) ∧ Z.cell? ⟨t, 1, none⟩ = some (.slice (some ⟨f, 0, none⟩) N cc) ∧ Z.cell? ⟨t, 2, none⟩ = some (.map (some lm)) ∧ Z.cell? ⟨t, 3, none⟩ = some (.map (some bm)) ∧ Z.cell? ⟨t, 4, none⟩ = some (.int .i64 F) := fun Z hZ => ⟨below_cell08 hZ x0, below_cell08 hZ x1, below_cell08 hZ x2, below_cell08 hZ x3, below_cell08 hZ x4⟩
  have HSt := hide hSt
  have Hwd := hide hwd
  have HL1 := hide l1
  have HE1 := hide e1
  have HSC := hide (fun (W : World) (hW : Below w.heap.size w W) => sclone08_any ⟨f, 0, none⟩ N cc ys W hyl hN (hrow.below hW) hone)
  clear h b1 hys hNe hS hF hwd hSt l1 e1 l1o e1o r1 r2 r3 hrow hone hyl
  go_enter Tryz.func9, Tryz.ntmps9
  go_wp2_with fail
  go_fit HMD.out
  rintro x wm ⟨rfl, rfl⟩
  clear HMD
  go_wp2_with fail
  have hS0 := HSt.out _ hdd
  rw [← Hwd.out] at hS0
  refine wp_region_held_drew (S := fun Z => Z.cell? ⟨t, 0, none⟩ = some (.int .i64 (S : Int)) ∧ Z.cell? ⟨t, 1, none⟩ = some (.slice (some ⟨f, 0, none⟩) N cc) ∧ Z.cell? ⟨t, 2, none⟩ = some (.map (some lm)) ∧ Z.cell? ⟨t, 3, none⟩ = some (.map (some bm)) ∧ Z.cell? ⟨t, 4, none⟩ = some (.int .i64 F)) (by kernel_rfl) hS0 (fun _ => ?_)
  refine wpAnyH_take (fuel := 25) (i := 0) (v := .pointer (some ⟨t, 0, none⟩)) rfl (by kernel_rfl) (by kernel_rfl) (by kernel_rfl) (fun _ _ _ h => h) (Or.inl ⟨by rfl, fun Z hZ => ?_⟩) hS0 ?_
  · obtain ⟨z1, z2, z3, z4, z5⟩ := hZ
    go_simp
  refine wpAnyH_take (fuel := 24) (i := 1) (v := .pointer (some ⟨t, 0, none⟩)) rfl (by kernel_rfl) (by kernel_rfl) (by kernel_rfl) (fun _ _ _ h => h) (Or.inl ⟨by rfl, fun Z hZ => ?_⟩) hS0 ?_
  · obtain ⟨z1, z2, z3, z4, z5⟩ := hZ
    go_simp
  refine wpAnyH_take (fuel := 23) (i := 2) (v := .pointer (some ⟨t, 0, none⟩)) rfl (by kernel_rfl) (by kernel_rfl) (by kernel_rfl) (fun _ _ _ h => h) (Or.inl ⟨by rfl, fun Z hZ => ?_⟩) hS0 ?_
  · obtain ⟨z1, z2, z3, z4, z5⟩ := hZ
    go_simp
  refine wpAnyH_take (fuel := 22) (i := 3) (v := .int .i64 (S : Int)) rfl (by kernel_rfl) (by kernel_rfl) (by kernel_rfl) (fun _ _ _ h => h) (Or.inl ⟨by rfl, fun Z hZ => ?_⟩) hS0 ?_
  · obtain ⟨z1, z2, z3, z4, z5⟩ := hZ
    go_simp
  refine wpAnyH_take (fuel := 21) (i := 4) (v := .pointer (some ⟨t, 0, none⟩)) rfl (by kernel_rfl) (by kernel_rfl) (by kernel_rfl) (fun _ _ _ h => h) (Or.inl ⟨by rfl, fun Z hZ => ?_⟩) hS0 ?_
  · obtain ⟨z1, z2, z3, z4, z5⟩ := hZ
    go_simp
  refine wpAnyH_take (fuel := 20) (i := 5) (v := .pointer (some ⟨t, 0, none⟩)) rfl (by kernel_rfl) (by kernel_rfl) (by kernel_rfl) (fun _ _ _ h => h) (Or.inl ⟨by rfl, fun Z hZ => ?_⟩) hS0 ?_
  · obtain ⟨z1, z2, z3, z4, z5⟩ := hZ
    go_simp
  refine wpAnyH_take (fuel := 19) (i := 6) (v := .pointer (some ⟨t, 1, none⟩)) rfl (by kernel_rfl) (by kernel_rfl) (by kernel_rfl) (fun _ _ _ h => h) (Or.inl ⟨by rfl, fun Z hZ => ?_⟩) hS0 ?_
  · obtain ⟨z1, z2, z3, z4, z5⟩ := hZ
    go_simp
  refine wpAnyH_take (fuel := 18) (i := 7) (v := .slice (some ⟨f, 0, none⟩) N cc) rfl (by kernel_rfl) (by kernel_rfl) (by kernel_rfl) (fun _ _ _ h => h) (Or.inl ⟨by rfl, fun Z hZ => ?_⟩) hS0 ?_
  · obtain ⟨z1, z2, z3, z4, z5⟩ := hZ
    go_simp
  refine wpAnyH_take (fuel := 17) (i := 9) (v := .pointer (some ⟨t, 0, none⟩)) rfl (by kernel_rfl) (by kernel_rfl) (by kernel_rfl) (fun _ _ _ h => h) (Or.inl ⟨by rfl, fun Z hZ => ?_⟩) hS0 ?_
  · obtain ⟨z1, z2, z3, z4, z5⟩ := hZ
    go_simp
  refine wpAnyH_take (fuel := 16) (i := 10) (v := .pointer (some ⟨t, 0, none⟩)) rfl (by kernel_rfl) (by kernel_rfl) (by kernel_rfl) (fun _ _ _ h => h) (Or.inl ⟨by rfl, fun Z hZ => ?_⟩) hS0 ?_
  · obtain ⟨z1, z2, z3, z4, z5⟩ := hZ
    go_simp
  refine wpAnyH_take (fuel := 15) (i := 11) (v := .pointer (some ⟨t, 2, none⟩)) rfl (by kernel_rfl) (by kernel_rfl) (by kernel_rfl) (fun _ _ _ h => h) (Or.inl ⟨by rfl, fun Z hZ => ?_⟩) hS0 ?_
  · obtain ⟨z1, z2, z3, z4, z5⟩ := hZ
    go_simp
  refine wpAnyH_take (fuel := 14) (i := 12) (v := .map (some lm)) rfl (by kernel_rfl) (by kernel_rfl) (by kernel_rfl) (fun _ _ _ h => h) (Or.inl ⟨by rfl, fun Z hZ => ?_⟩) hS0 ?_
  · obtain ⟨z1, z2, z3, z4, z5⟩ := hZ
    go_simp
  refine wpAnyH_take (fuel := 13) (i := 14) (v := .pointer (some ⟨t, 0, none⟩)) rfl (by kernel_rfl) (by kernel_rfl) (by kernel_rfl) (fun _ _ _ h => h) (Or.inl ⟨by rfl, fun Z hZ => ?_⟩) hS0 ?_
  · obtain ⟨z1, z2, z3, z4, z5⟩ := hZ
    go_simp
  refine wpAnyH_take (fuel := 12) (i := 15) (v := .pointer (some ⟨t, 0, none⟩)) rfl (by kernel_rfl) (by kernel_rfl) (by kernel_rfl) (fun _ _ _ h => h) (Or.inl ⟨by rfl, fun Z hZ => ?_⟩) hS0 ?_
  · obtain ⟨z1, z2, z3, z4, z5⟩ := hZ
    go_simp
  refine wpAnyH_take (fuel := 11) (i := 16) (v := .pointer (some ⟨t, 3, none⟩)) rfl (by kernel_rfl) (by kernel_rfl) (by kernel_rfl) (fun _ _ _ h => h) (Or.inl ⟨by rfl, fun Z hZ => ?_⟩) hS0 ?_
  · obtain ⟨z1, z2, z3, z4, z5⟩ := hZ
    go_simp
  refine wpAnyH_take (fuel := 10) (i := 17) (v := .map (some bm)) rfl (by kernel_rfl) (by kernel_rfl) (by kernel_rfl) (fun _ _ _ h => h) (Or.inl ⟨by rfl, fun Z hZ => ?_⟩) hS0 ?_
  · obtain ⟨z1, z2, z3, z4, z5⟩ := hZ
    go_simp
  refine wpAnyH_take (fuel := 9) (i := 19) (v := .pointer (some ⟨t, 0, none⟩)) rfl (by kernel_rfl) (by kernel_rfl) (by kernel_rfl) (fun _ _ _ h => h) (Or.inl ⟨by rfl, fun Z hZ => ?_⟩) hS0 ?_
  · obtain ⟨z1, z2, z3, z4, z5⟩ := hZ
    go_simp
  refine wpAnyH_take (fuel := 8) (i := 20) (v := .pointer (some ⟨t, 0, none⟩)) rfl (by kernel_rfl) (by kernel_rfl) (by kernel_rfl) (fun _ _ _ h => h) (Or.inl ⟨by rfl, fun Z hZ => ?_⟩) hS0 ?_
  · obtain ⟨z1, z2, z3, z4, z5⟩ := hZ
    go_simp
  refine wpAnyH_take (fuel := 7) (i := 21) (v := .pointer (some ⟨t, 4, none⟩)) rfl (by kernel_rfl) (by kernel_rfl) (by kernel_rfl) (fun _ _ _ h => h) (Or.inl ⟨by rfl, fun Z hZ => ?_⟩) hS0 ?_
  · obtain ⟨z1, z2, z3, z4, z5⟩ := hZ
    go_simp
  refine wpAnyH_take (fuel := 6) (i := 22) (v := .int .i64 F) rfl (by kernel_rfl) (by kernel_rfl) (by kernel_rfl) (fun _ _ _ h => h) (Or.inl ⟨by rfl, fun Z hZ => ?_⟩) hS0 ?_
  · obtain ⟨z1, z2, z3, z4, z5⟩ := hZ
    go_simp
  rw [Hwd.out]
  refine all_one (fuel := 5) (i := 8) (by kernel_rfl) rfl rfl (fun Kk hK => ?_)
  go_simp
  go_fit (HSC.out wd hdd)
  rintro x w1 ⟨v, rfl, hO1, hb1⟩
  rw [hzd] at hO1
  have hb01 := hdd.trans (hb1.mono (by omega))
  have hs01 := hb01.size
  have hown1 : ∀ g, v.ownBlock = some g → g < w1.heap.size := fun g hg => by
    obtain ⟨A3, c3, rfl, _, _, _, _, hlo⟩ := own_out hO1
    cases A3 with
    | none => simp [Value.ownBlock] at hg
    | some a3 =>
      have h1 := (hlo a3 rfl).2
      have h2 : a3.block = g := by
        have h3 := hg
        simp [Value.ownBlock] at h3
        first | exact h3 | exact h3.2 | omega
      omega
  have HS1 := HSt.out _ hb01
  refine hK _ _ ⟨HS1, ?_⟩
  clear hK Kk
  refine all_one (fuel := 4) (i := 13) (by kernel_rfl) rfl rfl (fun Kk hK => ?_)
  go_simp
  go_fit (HCL.out w1 D (HBL.out w1 hb01 D HL1.out))
  rintro x w2 ⟨rfl, hl2, _, hb2⟩
  have hb02 := hb01.trans (hb2.mono hs01)
  have hs02 := hb02.size
  have hl2t := hl2.lt
  have HS2 := HSt.out _ hb02
  refine hK _ _ ⟨HS2, ?_⟩
  clear hK Kk
  refine all_one (fuel := 3) (i := 18) (by kernel_rfl) rfl rfl (fun Kk hK => ?_)
  go_simp
  go_fit (HCB.out w2 E (HBB.out w2 hb02 E HE1.out))
  rintro x w3 ⟨rfl, he3, _, hb3⟩
  have hb03 := hb02.trans (hb3.mono hs02)
  have hs03 := hb03.size
  have he3t := he3.lt
  have HS3 := HSt.out _ hb03
  obtain ⟨l2, hl2e⟩ : ∃ y, w1.heap.size = y := ⟨_, rfl⟩
  obtain ⟨b2, hb2e⟩ : ∃ y, w2.heap.size = y := ⟨_, rfl⟩
  obtain ⟨t2, ht2e⟩ : ∃ y, w3.heap.size = y := ⟨_, rfl⟩
  rw [hl2e] at hl2 hl2t hown1
  rw [hb2e] at he3 he3t
  obtain ⟨A1, c1, hv1, _⟩ := own_out hO1
  obtain ⟨w4, hw4⟩ : ∃ y, w3.alloc (.cells #[.int .i64 (S : Int), v, .map (some l2), .map (some b2), .int .i64 F] 48) = y := ⟨_, rfl⟩
  have hb34 : Below w3.heap.size w3 w4 := by rw [← hw4]; exact (Below.refl _ _).alloc (Nat.le_refl _) _
  have hb04 := hb03.trans (hb34.mono hs03)
  have HS4 := HSt.out _ hb04
  have hB4 : Blk w4 t2 [.int .i64 (S : Int), v, .map (some l2), .map (some b2), .int .i64 F] 48 := by rw [← hw4, ← ht2e]; exact Blk.new w3 _ _
  have hO4 := own_below hO1 (hb2.trans ((hb3.trans (hb34.mono hb3.size)).mono hb2.size))
  have hTW := HTW.out w4 t2 l2 b2 v hb04 (by omega) (by omega) (by omega) hO4 hB4 (own_fr hl2 (Fr.of_below (X := fun _ => False) (hb3.trans (hb34.mono hb3.size))) (fun h => h)) (own_fr he3 (Fr.of_below (X := fun _ => False) hb34) (fun h => h)) (fun e => by have := hown1 _ e; omega) (fun e => by have := hown1 _ e; omega) (fun e => by have := hown1 _ e; omega) ⟨by omega, by omega, by omega⟩
  obtain ⟨f2, hD4, hf2⟩ := hTW
  have HD4 := hide hD4
  have HLO := hide (show ∀ b, OwnB t2 f2 l2 b2 b → w.heap.size ≤ b from fun b hb => by rcases hb with h | h | h | h <;> omega)
  have Hw4 := hide hw4
  have Hl2e := hide hl2e
  have Hb2e := hide hb2e
  have Ht2e := hide ht2e
  subst hv1
  clear hD4 hO1 hO4 hB4 hb34 HTW HCL HCB HBL HBB hw4 hl2e hb2e ht2e hl2 he3 hown1
  rw [Hb2e.out]
  refine hK _ _ ⟨HS3, ?_⟩
  clear hK Kk
  refine all_one (fuel := 2) (i := 23) (by kernel_rfl) rfl rfl (fun Kk hK => ?_)
  go_simp
  refine hK _ _ ⟨HS3, ?_⟩
  clear hK Kk
  refine all_one (fuel := 1) (i := 24) (by kernel_rfl) rfl rfl (fun Kk hK => ?_)
  go_simp
  try rw [Hl2e.out]
  try rw [Hw4.out]
  try rw [Ht2e.out]
  refine hK _ _ ⟨HS4, ?_⟩
  clear hK Kk
  refine all_one (fuel := 0) (i := 25) (by kernel_rfl) rfl rfl (fun Kk hK => ?_)
  go_simp
  refine hK _ _ ⟨HS4, ?_⟩
  clear hK Kk
  refine wpAnyH_done (by kernel_rfl) ?_ _
  go_wp2
  go_ret
  exact ⟨t2, f2, l2, b2, rfl, HD4.out, HLO.out, hb04⟩
end
section
variable {w w' w1 w2 : World} {t f lm bm t2 f2 : Nat} {cs cs' : List Value} {d d' : Dk} {L : Nat}
/-- Both disks, in memory below L. -/
structure Kept (w : World) (L t f lm bm t2 f2 : Nat) (d : Dk) : Prop where
  a : DIs w (fun b => Free t f lm bm t2 f2 b ∧ b < L) t f lm bm d
  b : ∃ cs, RDIs w (fun b => Free t f lm bm t2 f2 b ∧ b < L) t2 f2 cs d
  l : t < L ∧ f < L ∧ lm < L ∧ bm < L ∧ t2 < L ∧ f2 < L
  n : ¬ OwnB t f lm bm t2 ∧ ¬ OwnB t f lm bm f2
theorem Both.kept (h : Both w t f lm bm t2 f2 d) : Kept w w.heap.size t f lm bm t2 f2 d := by
  obtain ⟨cs, hc⟩ := h.b
  have h1 := h.a.lts
  have h2 := hc.lts
  exact ⟨h.a.low, ⟨cs, hc.low⟩, ⟨h1.1, h1.2.1, h1.2.2.1, h1.2.2.2, h2.1, h2.2⟩, h.n1, h.n2⟩
theorem Kept.fr (h : Kept w L t f lm bm t2 f2 d) {X : Nat → Prop} (hF : Fr X w w') (hX : ∀ k, X k → L ≤ k) : Kept w' L t f lm bm t2 f2 d := by
  obtain ⟨cs, hc⟩ := h.b
  obtain ⟨l1, l2, l3, l4, l5, l6⟩ := h.l
  exact ⟨h.a.fr hF (fun hx => by have := hX _ hx; omega) (fun hx => by have := hX _ hx; omega) (fun hx => by have := hX _ hx; omega) (fun hx => by have := hX _ hx; omega) (fun b hb hx => by have := hX _ hx; omega), ⟨cs, hc.fr hF (fun hx => by have := hX _ hx; omega) (fun hx => by have := hX _ hx; omega) (fun b hb hx => by have := hX _ hx; omega)⟩, h.l, h.n⟩
theorem Kept.below (h : Kept w L t f lm bm t2 f2 d) (hb : Below w.heap.size w w') : Kept w' L t f lm bm t2 f2 d :=
  h.fr (X := fun _ => False) (Fr.of_below hb) (fun _ hx => hx.elim)
theorem Kept.both (h : Kept w L t f lm bm t2 f2 d) : Both w t f lm bm t2 f2 d := by
  obtain ⟨cs, hc⟩ := h.b
  exact ⟨h.a.mono (fun b hb => hb.1) (fun b hb => ⟨fun e => hb.1 (.inl e), fun e => hb.1 (.inr (.inl e)), fun e => hb.1 (.inr (.inr (.inl e))), fun e => hb.1 (.inr (.inr (.inr e)))⟩), ⟨cs, hc.mono (fun b hb => hb.1) (fun b hb => ⟨fun e => hb.2 (.inl e), fun e => hb.2 (.inr e)⟩)⟩, h.n.1, h.n.2⟩
/-- A disk beside the document's, where nothing is shared but bytes. -/
theorem both_of {Q : Nat → Prop} {x xf xl xm y yf : Nat} (hD : DIs w Q x xf xl xm d) (hR : RDIs w Q y yf cs d) (h1 : ∀ b, Q b → ¬ OwnB x xf xl xm b) (h2 : ∀ b, Q b → ¬ ROwn y yf b) (h3 : ∀ b, OwnB x xf xl xm b → ¬ ROwn y yf b) : Both w x xf xl xm y yf d :=
  ⟨hD.mono (fun b hb => ⟨h1 b hb, h2 b hb⟩) (fun b hb => ⟨fun e => hb.1 (.inl e), fun e => hb.1 (.inr (.inl e)), fun e => hb.1 (.inr (.inr (.inl e))), fun e => hb.1 (.inr (.inr (.inr e)))⟩), ⟨cs, hR.mono (fun b hb => ⟨h1 b hb, h2 b hb⟩) (fun b hb => ⟨fun e => hb.2 (.inl e), fun e => hb.2 (.inr e)⟩)⟩, fun hx => h3 _ hx (.inl rfl), fun hx => h3 _ hx (.inr rfl)⟩
theorem Kept.mixed (h : Kept w L t f lm bm t2 f2 d) {x xf xl xm : Nat} (hD : DIs w (fun b => Free t f lm bm t2 f2 b ∧ b < L) x xf xl xm d) (hx : ∀ b, OwnB x xf xl xm b → L ≤ b) : Both w x xf xl xm t2 f2 d := by
  obtain ⟨cs, hc⟩ := h.b
  obtain ⟨l1, l2, l3, l4, l5, l6⟩ := h.l
  exact both_of hD hc (fun b hb ho => by have := hx b ho; omega) (fun b hb ho => hb.1.2 ho) (fun b hb ho => by have := hx b hb; rcases ho with e | e <;> omega)
theorem Kept.two (h : Kept w L t f lm bm t2 f2 d) {M x xf xl xm y yf : Nat} (hM : L ≤ M) (hD : DIs w (fun b => Free t f lm bm t2 f2 b ∧ b < L) x xf xl xm d) (hR : RDIs w (fun b => (Free t f lm bm t2 f2 b ∧ b < L) ∧ b < M) y yf cs d) (hx : ∀ b, OwnB x xf xl xm b → L ≤ b ∧ b < M) (hy : M ≤ y ∧ M ≤ yf) : Both w x xf xl xm y yf d ∧ ∀ k, Six x xf xl xm y yf k → L ≤ k := by
  refine ⟨both_of hD (hR.mono (Q' := fun b => Free t f lm bm t2 f2 b ∧ b < L) (fun b hb => hb.1) (fun b hb => ⟨by omega, by omega⟩)) (fun b hb ho => by have := hx b ho; omega) (fun b hb ho => by rcases ho with e | e <;> omega) (fun b hb ho => by have := hx b hb; rcases ho with e | e <;> omega), fun k hk => ?_⟩
  rcases hk with hk | hk
  · exact (hx k hk).1
  · rcases hk with e | e <;> omega
end
theorem rd_take08 {w : World} {A : Option Addr} {x : List UInt8} (h : Rd w A (bys x)) (k : Nat) : Rd w A (bys (x.take k)) := fun j u hu => by
  refine h j u ?_
  rw [show bys (x.take k) = (bys x).take k by simp [bys, List.map_take]] at hu
  rw [List.getElem?_take] at hu
  split at hu
  · exact hu
  · cases hu
theorem rd_drop08 {w : World} {A : Option Addr} {x : List UInt8} (h : Rd w A (bys x)) {n k c : Nat} (hn : x.length = n) (hk : k ≤ n) (hc : n ≤ c) : Rd w (cutA A c k 1) (bys (x.drop k)) := by
  have := h.cutA (n := n) (k := k) (cap := c) (by rw [bys_length]; omega) hk hc
  rwa [show (bys x).drop k = bys (x.drop k) by simp [bys, List.map_drop]] at this
theorem two08 (b : Bool) : b = true ∨ b = false := by cases b <;> simp
section
variable {d dk d0 d1 : Dk} {k i : Nat}
theorem getD_set08 {l : List (List UInt8)} {i x : Nat} {b : List UInt8} (hi : i < l.length) : (l.set i b).getD x [] = if x = i then b else l.getD x [] := by
  rw [List.getD_eq_getElem?_getD, List.getD_eq_getElem?_getD, List.getElem?_set]
  by_cases h : x = i
  · subst h; rw [if_pos rfl, if_pos rfl, if_pos hi]; rfl
  · rw [if_neg h, if_neg (fun e => h e.symm)]
theorem crashStep_at (keep : List Bool) (torn cut : Int) (hi : i < dk.fast.length) :
    ((dk.crashStep keep torn cut k (i : Int)).fast.getD i [] = stepF keep torn cut dk k i ((dk.loose (i : Int)).getD []) (dk.fast.getD i []) ∧ (dk.crashStep keep torn cut k (i : Int)).bad (i : Int) = stepB keep torn dk k i) ∧
    ∀ x : Nat, x ≠ i → (dk.crashStep keep torn cut k (i : Int)).fast.getD x [] = dk.fast.getD x [] ∧ (dk.crashStep keep torn cut k (i : Int)).bad (x : Int) = dk.bad (x : Int) := by
  have hf : ∀ (b : List UInt8) (x : Nat), (dk.fasten i b).fast.getD x [] = if x = i then b else dk.fast.getD x [] := fun b x => getD_set08 hi
  have hb : ∀ (b : List UInt8) (x : Nat), (dk.fasten i b).bad (x : Int) = if x = i then false else dk.bad (x : Int) := fun b x => by
    rw [Dk.fasten_bad]
    by_cases h : x = i
    · rw [if_pos (by omega), if_pos h]
    · rw [if_neg (by omega), if_neg h]
  unfold Dk.crashStep stepF stepB
  rw [Int.toNat_natCast]
  by_cases h1 : (k : Int) = torn
  · rw [if_pos h1, if_pos h1, if_pos h1]
    cases hbd : dk.bad (i : Int) with
    | true =>
      refine ⟨⟨?_, ?_⟩, fun x _ => ⟨?_, ?_⟩⟩ <;> simp [hbd]
    | false =>
      simp only [Bool.false_eq_true, if_false]
      exact ⟨⟨by rw [hf, if_pos rfl], by rw [hb, if_pos rfl]⟩, fun x hx => ⟨by rw [hf, if_neg hx], by rw [hb, if_neg hx]⟩⟩
  · rw [if_neg h1, if_neg h1, if_neg h1]
    by_cases h2 : keep.getD k false = true
    · rw [if_pos h2, if_pos h2, if_pos h2]
      exact ⟨⟨by rw [hf, if_pos rfl], by rw [hb, if_pos rfl]⟩, fun x hx => ⟨by rw [hf, if_neg hx], by rw [hb, if_neg hx]⟩⟩
    · rw [if_neg h2, if_neg h2, if_neg h2]
      exact ⟨⟨rfl, rfl⟩, fun x _ => ⟨rfl, rfl⟩⟩
theorem crashTo_val (ok : d.Ok) (keep : List Bool) (torn cut : Int) : ∀ k, k ≤ d.looseL.length →
    (∀ x : Nat, (x : Int) ∉ d.looseL.take k → (d.crashTo keep torn cut d.looseL k).fast.getD x [] = d.fast.getD x [] ∧ (d.crashTo keep torn cut d.looseL k).bad (x : Int) = d.bad (x : Int)) ∧
    (∀ j, j < k → ∀ i : Nat, d.looseL.getD j 0 = (i : Int) → (d.crashTo keep torn cut d.looseL k).fast.getD i [] = stepF keep torn cut d j i ((d.loose (i : Int)).getD []) (d.fast.getD i []) ∧ (d.crashTo keep torn cut d.looseL k).bad (i : Int) = stepB keep torn d j i)
  | 0, _ => ⟨fun x _ => ⟨rfl, rfl⟩, fun j hj => absurd hj (by omega)⟩
  | k + 1, hk => by
    have hk' : k < d.looseL.length := by omega
    obtain ⟨ih1, ih2⟩ := crashTo_val ok keep torn cut k (by omega)
    obtain ⟨bs, g1, g2, g3, g4, g5⟩ := Dk.looseL_get ok hk'
    have h0 : ∀ y ∈ d.looseL, 0 ≤ y := fun y hy => by
      obtain ⟨j, hj, rfl⟩ := List.getElem_of_mem hy
      exact (Dk.looseL_get ok hj).choose_spec.2.1
    obtain ⟨s1, s2, s3⟩ := Dk.crashTo_same keep torn cut d d.looseL h0 k (by omega)
    obtain ⟨i0, hi0⟩ : ∃ i0 : Nat, d.looseL[k] = (i0 : Int) := ⟨(d.looseL[k]).toNat, by omega⟩
    have hg : d.looseL.getD k 0 = (i0 : Int) := by rw [intD_at08 hk', hi0]
    rw [hi0] at g1 g2 g3 g5
    have hst : d.crashTo keep torn cut d.looseL (k + 1) = (d.crashTo keep torn cut d.looseL k).crashStep keep torn cut k (i0 : Int) := by
      show (d.crashTo keep torn cut d.looseL k).crashStep keep torn cut k (d.looseL.getD k 0) = _
      rw [hg]
    obtain ⟨⟨c1, c2⟩, c3⟩ := crashStep_at (dk := d.crashTo keep torn cut d.looseL k) (k := k) (i := i0) keep torn cut (by rw [s2]; omega)
    have e1 := ih1 i0 g5
    have hF : stepF keep torn cut (d.crashTo keep torn cut d.looseL k) k i0 (((d.crashTo keep torn cut d.looseL k).loose (i0 : Int)).getD []) ((d.crashTo keep torn cut d.looseL k).fast.getD i0 []) = stepF keep torn cut d k i0 ((d.loose (i0 : Int)).getD []) (d.fast.getD i0 []) := by
      rw [s3 _ g5, e1.1]
      unfold stepF
      rw [e1.2, s1]
    have hB : stepB keep torn (d.crashTo keep torn cut d.looseL k) k i0 = stepB keep torn d k i0 := by
      unfold stepB
      rw [e1.2]
    rw [hst]
    refine ⟨fun x hx => ?_, fun j hj i hji => ?_⟩
    · rw [List.take_succ_eq_append_getElem hk', List.mem_append, List.mem_singleton, not_or, hi0] at hx
      have h2 := c3 x (fun e => hx.2 (by rw [e]))
      have h3 := ih1 x hx.1
      exact ⟨h2.1.trans h3.1, h2.2.trans h3.2⟩
    · rcases (show j = k ∨ j < k by omega) with rfl | hjk
      · rw [hg] at hji
        have : i0 = i := by omega
        subst this
        exact ⟨c1.trans hF, c2.trans hB⟩
      · have h4 := ih2 j hjk i hji
        have hne : i ≠ i0 := fun e => by
          subst e
          rw [intD_at08 (by omega)] at hji
          exact g5 (by rw [← hji]; exact List.mem_iff_getElem.2 ⟨j, by rw [List.length_take]; omega, by rw [List.getElem_take]⟩)
        have h2 := c3 i hne
        exact ⟨h2.1.trans h4.1, h2.2.trans h4.2⟩
/-- One sector, read. -/
theorem Dk.read1 (hi : i < d.fast.length) : d.readE (i : Int) 1 = (if d.unread (i : Int) = true then 81 else 0) ∧ d.readB (i : Int) 1 = if d.unread (i : Int) = true then [] else d.bytesD i := by
  have hin : d.inR (i : Int) 1 := ⟨by omega, by omega, by omega, by omega⟩
  have h1 : d.readE (i : Int) 1 = (if d.unread (i : Int) = true then 81 else 0) := by
    unfold Dk.readE
    rw [if_pos hin]
    have : (List.range (1 : Int).toNat).any (fun k => d.unread ((i : Int) + (k : Int))) = d.unread (i : Int) := by
      show (List.range 1).any _ = _
      rw [List.range_succ]
      simp
    rw [this]
  refine ⟨h1, ?_⟩
  unfold Dk.readB
  rw [h1]
  cases d.unread (i : Int) with
  | true => simp
  | false =>
    simp only [Bool.false_eq_true, if_false, if_true]
    rw [Int.toNat_natCast]
    show d.flat i 1 = _
    rw [Dk.flat_succ]
    simp [Dk.flat]
/-- A disk of which nothing is loose, and one with the same fast sectors. -/
structure FastAs (d0 d1 : Dk) : Prop where
  lo : ∀ x, d0.loose x = none
  size : d1.size = d0.size
  fast : d1.fast = d0.fast
  bad : d1.bad = d0.bad
theorem fast_not (h : FastAs d0 d1) (ok : d1.Ok) (keep : List Bool) (torn cut : Int) (hi : i < d0.fast.length) (hn : (i : Int) ∉ d1.looseL) :
    (d1.crash keep torn cut).readE (i : Int) 1 = d0.readE (i : Int) 1 ∧ (d1.crash keep torn cut).readB (i : Int) 1 = d0.readB (i : Int) 1 := by
  have hv := (crashTo_val ok keep torn cut d1.looseL.length (Nat.le_refl _)).1 i (by rw [List.take_length]; exact hn)
  have hs : (d1.crash keep torn cut).fast.length = d1.fast.length := by
    have h0 : ∀ y ∈ d1.looseL, 0 ≤ y := fun y hy => by
      obtain ⟨j, hj, rfl⟩ := List.getElem_of_mem hy
      exact (Dk.looseL_get ok hj).choose_spec.2.1
    exact (Dk.crashTo_same keep torn cut d1 d1.looseL h0 _ (Nat.le_refl _)).2.1
  have hu : (d1.crash keep torn cut).unread (i : Int) = d0.unread (i : Int) := by
    unfold Dk.unread
    rw [h.lo, ← h.bad]
    show ((none : Option (List UInt8)).isNone && (d1.crashTo keep torn cut d1.looseL d1.looseL.length).bad (i : Int)) = _
    rw [hv.2]
  have hbd : (d1.crash keep torn cut).bytesD i = d0.bytesD i := by
    unfold Dk.bytesD
    rw [h.lo, ← h.fast]
    show (none : Option (List UInt8)).getD ((d1.crashTo keep torn cut d1.looseL d1.looseL.length).fast.getD i []) = _
    rw [hv.1]
  have r1 := Dk.read1 (d := d1.crash keep torn cut) (i := i) (by rw [hs, h.fast]; exact hi)
  have r0 := Dk.read1 (d := d0) hi
  rw [r1.1, r1.2, r0.1, r0.2, hu, hbd]
  exact ⟨rfl, rfl⟩
theorem fast_in (h : FastAs d0 d1) (ok : d1.Ok) (keep : List Bool) (torn cut : Int) {j : Nat} (hj : j < d1.looseL.length) (hji : d1.looseL[j] = (i : Int)) :
    ((d1.crash keep torn cut).readE (i : Int) 1 = d1.readE (i : Int) 1 ∧ (d1.crash keep torn cut).readB (i : Int) 1 = d1.readB (i : Int) 1) ∨
    ((d1.crash keep torn cut).readE (i : Int) 1 = d0.readE (i : Int) 1 ∧ (d1.crash keep torn cut).readB (i : Int) 1 = d0.readB (i : Int) 1) ∨
    ((j : Int) = torn ∧ (d1.crash keep torn cut).readE (i : Int) 1 = 0 ∧ ((d1.crash keep torn cut).readB (i : Int) 1).length = d0.size ∧ (d0.readB (i : Int) 1).length = d0.size ∧ (d1.readB (i : Int) 1).length = d0.size ∧ ∃ c0, c0 ≤ d0.size ∧ ((d1.crash keep torn cut).readB (i : Int) 1).take c0 = (d1.readB (i : Int) 1).take c0 ∧ ((d1.crash keep torn cut).readB (i : Int) 1).drop c0 = (d0.readB (i : Int) 1).drop c0) := by
  obtain ⟨bs, g1, g2, g3, g4, g5⟩ := Dk.looseL_get ok hj
  rw [hji] at g1 g2 g3 g5
  have hi1 : i < d1.fast.length := by omega
  have hi0 : i < d0.fast.length := by rw [← h.fast]; exact hi1
  have hv := (crashTo_val ok keep torn cut d1.looseL.length (Nat.le_refl _)).2 j hj i (by rw [intD_at08 hj, hji])
  have hs : (d1.crash keep torn cut).fast.length = d1.fast.length := by
    have h0 : ∀ y ∈ d1.looseL, 0 ≤ y := fun y hy => by
      obtain ⟨j, hj, rfl⟩ := List.getElem_of_mem hy
      exact (Dk.looseL_get ok hj).choose_spec.2.1
    exact (Dk.crashTo_same keep torn cut d1 d1.looseL h0 _ (Nat.le_refl _)).2.1
  rw [g1] at hv
  have hu2 : (d1.crash keep torn cut).unread (i : Int) = stepB keep torn d1 j i := by
    unfold Dk.unread
    show ((none : Option (List UInt8)).isNone && (d1.crashTo keep torn cut d1.looseL d1.looseL.length).bad (i : Int)) = _
    rw [hv.2]
    rfl
  have hb2 : (d1.crash keep torn cut).bytesD i = stepF keep torn cut d1 j i bs (d1.fast.getD i []) := by
    unfold Dk.bytesD
    show (none : Option (List UInt8)).getD ((d1.crashTo keep torn cut d1.looseL d1.looseL.length).fast.getD i []) = _
    rw [hv.1]
    rfl
  have hu1 : d1.unread (i : Int) = false := by unfold Dk.unread; rw [g1]; rfl
  have hb1 : d1.bytesD i = bs := by unfold Dk.bytesD; rw [g1]; rfl
  have hu0 : d0.unread (i : Int) = d1.bad (i : Int) := by unfold Dk.unread; rw [h.lo, h.bad]; rfl
  have hb0 : d0.bytesD i = d1.fast.getD i [] := by unfold Dk.bytesD; rw [h.lo, h.fast]; rfl
  have r2 := Dk.read1 (d := d1.crash keep torn cut) (i := i) (by rw [hs]; exact hi1)
  have r1 := Dk.read1 (d := d1) hi1
  have r0 := Dk.read1 (d := d0) hi0
  rw [hu2, hb2] at r2
  rw [hu1, hb1] at r1
  rw [hu0, hb0] at r0
  rw [r2.1, r2.2, r1.1, r1.2, r0.1, r0.2]
  have hfl : (d1.fast.getD i []).length = d1.size := by
    rw [List.getD_eq_getElem?_getD, List.getElem?_eq_getElem hi1]
    exact ok.fl _ (List.getElem_mem hi1)
  by_cases h1 : (j : Int) = torn
  · cases hbd : d1.bad (i : Int) with
    | true =>
      refine .inr (.inl ?_)
      unfold stepB
      rw [if_pos h1, hbd]
      exact ⟨rfl, rfl⟩
    | false =>
      refine .inr (.inr ?_)
      have hB : stepB keep torn d1 j i = false := by unfold stepB; rw [if_pos h1, hbd]
      have hF : stepF keep torn cut d1 j i bs (d1.fast.getD i []) = tornB d1.size bs (d1.fast.getD i []) cut := by
        unfold stepF; rw [if_pos h1, hbd]; rfl
      rw [hB, hF]
      simp only [Bool.false_eq_true, if_false]
      have hcn : (min (max cut 0) (d1.size : Int)).toNat ≤ d1.size := by omega
      refine ⟨h1, trivial, by rw [tornB_len g4 hfl, h.size], by rw [hfl, h.size], by rw [g4, h.size], (min (max cut 0) (d1.size : Int)).toNat, by rw [← h.size]; exact hcn, ?_, ?_⟩
      · unfold tornB
        rw [List.take_append_of_le_length (by rw [List.length_take]; omega), List.take_take, Nat.min_self]
      · unfold tornB
        rw [List.drop_append_of_le_length (by rw [List.length_take]; omega), List.drop_eq_nil_of_le (by rw [List.length_take]; omega), List.nil_append]
  · by_cases h2 : keep.getD j false = true
    · refine .inl ?_
      have hB : stepB keep torn d1 j i = false := by unfold stepB; rw [if_neg h1, if_pos h2]
      have hF : stepF keep torn cut d1 j i bs (d1.fast.getD i []) = bs := by unfold stepF; rw [if_neg h1, if_pos h2]
      rw [hB, hF]
      exact ⟨rfl, rfl⟩
    · refine .inr (.inl ?_)
      have hB : stepB keep torn d1 j i = d1.bad (i : Int) := by unfold stepB; rw [if_neg h1, if_neg h2]
      have hF : stepF keep torn cut d1 j i bs (d1.fast.getD i []) = d1.fast.getD i [] := by unfold stepF; rw [if_neg h1, if_neg h2]
      rw [hB, hF]
      exact ⟨rfl, rfl⟩
/-- Behind a fuse that is not set and a barrier nothing is loose. -/
theorem fast_start (ok : d.Ok) : FastAs ({ d with fuse := fuseI (-1) } : Dk).barrier ({ d with fuse := fuseI (-1) } : Dk).barrier := by
  refine ⟨fun x => ?_, rfl, rfl, rfl⟩
  have hf : fuseI (-1) = -1 := by decide
  rw [hf]
  have ok' : ({ d with fuse := -1 } : Dk).Ok := ⟨ok.s1, ok.s2, ok.n1, ok.n2, ok.fl, ok.lo, ok.ba, by show (-1 : Int) ≤ -1; omega, by show (-1 : Int) ≤ _; omega⟩
  have hb : ({ d with fuse := -1 } : Dk).burnE = 0 := by unfold Dk.burnE; rw [if_neg (by show ¬ (-1 : Int) = 0; omega)]
  have hbt : ({ d with fuse := -1 } : Dk).burnt = { d with fuse := -1 } := by unfold Dk.burnt; rw [if_neg (by show ¬ (0 : Int) < -1; omega)]
  unfold Dk.barrier
  rw [if_pos hb, hbt]
  have h0 : ∀ y ∈ ({ d with fuse := -1 } : Dk).looseL, 0 ≤ y := fun y hy => by
    obtain ⟨j, hj, rfl⟩ := List.getElem_of_mem hy
    exact (Dk.looseL_get ok' hj).choose_spec.2.1
  rw [Dk.fastAll_loose _ _ h0]
  by_cases hx : x ∈ ({ d with fuse := -1 } : Dk).looseL
  · rw [if_pos hx]
  · rw [if_neg hx]
    cases hl : ({ d with fuse := -1 } : Dk).loose x with
    | none => rfl
    | some b => exact absurd ((Dk.mem_looseL ok').2 (by rw [hl]; rfl)) hx
theorem FastAs.write (h : FastAs d0 d1) (i : Int) (b : List UInt8) : FastAs d0 (d1.write i b) := by
  unfold Dk.write
  split
  · obtain ⟨a1, a2, a3, a4⟩ := Dk.lay_same d1.burnt i.toNat b (b.length / d1.size)
    obtain ⟨b1, b2, b3, b4⟩ := Dk.burnt_same d1
    exact ⟨h.lo, a1.trans (b1.trans h.size), a2.trans (b2.trans h.fast), a3.trans (b4.trans h.bad)⟩
  · exact h
theorem crash_noLoose (keep : List Bool) (torn cut : Int) : (d.crash keep torn cut).looseL = [] := by
  unfold Dk.looseL
  rw [List.filter_eq_nil_iff]
  intro x _
  show ¬ (none : Option (List UInt8)).isSome = true
  simp
end
end Go.Proofs.YtoaodmidegkolaaGreatDoor
