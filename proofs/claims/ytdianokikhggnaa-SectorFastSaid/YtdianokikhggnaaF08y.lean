/- The document's disk: Copy; Same. -/
import Derived.Test.YtdianokikhggnaaF08x
namespace Go.Proofs.Ytdianokikhggnaa
set_option maxRecDepth 20000
open Go.RowKit Go.Px Go.Maps
set_option linter.unusedVariables false
section
variable {w w' : World} {Q Q' X : Nat → Prop} {t f : Nat} {cs cs' : List Value} {d d' : Dk}
set_option maxHeartbeats 1600000 in
theorem rsame08_eq (A : Option Addr) (n c : Nat) (B : Option Addr) (e : Nat) (l : List Int) (w : World) (hn : l.length = n) (h63 : n ≤ 9223372036854775807) (hr : Rd w A (ints l)) (hs : Rd w B (ints l)) :
    Calls Try.prog 33 #[.slice A n c, .slice B n e] w fun e w' => e = .returned (.bool true) ∧ Below w.heap.size w w' := by
  have Hn := hide hn
  clear hn
  go_enter Try.func33, Try.ntmps33
  go_wp2
  go_loopw [5] (fun i wr => ∃ k : Nat, k ≤ n ∧ i = .int .i64 k ∧ Below w.heap.size w wr) (fun i _ => n - (RowKit.intOf i).toNat)
  case atStart => exact ⟨0, by omega, rfl, Below.refl _ _⟩
  case round =>
    obtain ⟨k, hk, rfl, hbw⟩ := hrel
    by_cases hlt : k < n
    · have hkl : k < l.length := by rw [Hn.out]; exact hlt
      obtain ⟨a, ha, hc⟩ := hr.below hbw k _ (ints_get hkl)
      obtain ⟨b, hb, hd⟩ := hs.below hbw k _ (ints_get hkl)
      obtain ⟨x, hx⟩ : ∃ x, l[k] = x := ⟨_, rfl⟩
      rw [hx] at hc hd
      subst ha hb
      clear hx hkl
      go_wp2
      go_quiet (fail)
      all_goals
        go_wp2
        go_roundw
        case rel => exact ⟨k + 1, by omega, by go_num, below_drewN hbw _⟩
        case measure => simp [RowKit.intOf]; omega
    · go_wp2
      go_ret
      exact ⟨rfl, hbw⟩
/-- The cells of a row of sectors are single. -/
theorem RDIs.ones (h : RDIs w Q t f cs d) : ∀ u ∈ cs.take (d.fast.length * 4), u.oneCell' = true := fun u hu => by
  obtain ⟨j, hj, hju⟩ := List.mem_iff_getElem.1 hu
  rw [List.length_take] at hj
  rw [List.getElem_take] at hju
  have hjc : j < cs.length := by omega
  have hu' : cs[j]? = some u := by rw [List.getElem?_eq_getElem hjc, hju]
  have hi : j / 4 < d.fast.length := by omega
  obtain ⟨A, n, c, B, m, e, h1, h2, h3, h4, _⟩ := h.sec (j / 4) hi
  rcases (show j = j / 4 * 4 ∨ j = j / 4 * 4 + 1 ∨ j = j / 4 * 4 + 2 ∨ j = j / 4 * 4 + 3 by omega) with g | g | g | g <;> rw [g] at hu'
  · rw [h1] at hu'; injection hu' with hu'; subst hu'; rfl
  · rw [h2] at hu'; injection hu' with hu'; subst hu'; rfl
  · rw [h3] at hu'; injection hu' with hu'; subst hu'; rfl
  · rw [h4] at hu'; injection hu' with hu'; subst hu'; rfl
/-- A copy's row and block: the same disk, its bytes shared. -/
theorem RDIs.twin (h : RDIs w Q t f cs d) {W : World} {t2 : Nat} {v : Value} (hb : Below w.heap.size w W) (ht2 : w.heap.size ≤ t2) (hO : W.ownsRow w.heap.size 86 4 v d.fast.length (cs.take (d.fast.length * 4))) (hB : Blk W t2 [.int .i64 (d.size : Int), v, .bool (decide (0 ≤ d.fuse)), .int .i64 (max d.fuse 0)] 47) (hne : v.ownBlock ≠ some t2) : ∃ f2 cs2, RDIs W (fun b => Q b ∧ b < w.heap.size) t2 f2 cs2 d ∧ w.heap.size ≤ f2 := by
  have hl := h.low.below hb
  have hn1 := h.ok.n1
  obtain ⟨hx, hcase⟩ := hO
  rcases hcase with ⟨_, hn⟩ | ⟨g, cap, cur, rfl, hbg, hg, hnc, hcm, hcs, htk⟩
  · omega
  · refine ⟨g, cur.toList, ⟨⟨cap, hB, hnc, hcm⟩, by simpa [Blk] using hg, ?_, fun i hi => ?_, h.ok, fun e => hne (by rw [e]; rfl), fun b hb => ⟨by omega, by omega⟩⟩, hbg⟩
    · simp only [Array.length_toList, hcs]; exact Nat.mul_le_mul_right _ hnc
    · refine (hl.sec i hi).cells (fun k hk => ?_)
      have e : (cur.toList.take (d.fast.length * 4))[i * 4 + k]? = (cs.take (d.fast.length * 4))[i * 4 + k]? := by rw [htk]
      rw [List.getElem?_take, List.getElem?_take, if_pos (by omega), if_pos (by omega)] at e
      exact e
set_option maxHeartbeats 3200000 in
theorem rcopy08_any (h : RDIs w Q t f cs d) : Calls Try.prog 20 #[.pointer (some ⟨t, 0, none⟩)] w fun e w' => ∃ t2 f2 cs2, e = .returned (.pointer (some ⟨t2, 0, none⟩)) ∧ RDIs w' (fun b => Q b ∧ b < w.heap.size) t2 f2 cs2 d ∧ w.heap.size ≤ t2 ∧ w.heap.size ≤ f2 ∧ Below w.heap.size w w' := by
  obtain ⟨cc, b1, hcc, hcc2⟩ := h.blk
  have x0 := b1.cell (j := 0) rfl
  have x1 := b1.cell (j := 1) rfl
  have x2 := b1.cell (j := 2) rfl
  have x3 := b1.cell (j := 3) rfl
  have hN := h.ok.n2
  have hlen := h.len
  have hrow : Rd w (some ⟨f, 0, none⟩) (cs.take (d.fast.length * 4)) := Rd.of_some fun j u hu => by
    rw [List.getElem?_take] at hu
    split at hu
    · have := h.row.cell hu
      rwa [show (⟨f, 0, none⟩ : Addr).add j = ⟨f, j, none⟩ by unfold Addr.add; split <;> simp_all]
    · cases hu
  have hone := h.ones
  obtain ⟨ys, hys⟩ : ∃ ys, cs.take (d.fast.length * 4) = ys := ⟨_, rfl⟩
  have hyl : ys.length = d.fast.length * 4 := by rw [← hys, List.length_take]; omega
  rw [hys] at hrow hone
  obtain ⟨bz, hbz⟩ : ∃ b, decide (0 ≤ d.fuse) = b := ⟨_, rfl⟩
  obtain ⟨mz, hmz⟩ : ∃ m, max d.fuse 0 = m := ⟨_, rfl⟩
  rw [hbz] at x2
  rw [hmz] at x3
  have HT := hide (fun (W : World) t2 v => h.twin (W := W) (t2 := t2) (v := v))
  rw [hys, hbz, hmz] at HT
  obtain ⟨N, hNe⟩ : ∃ N, d.fast.length = N := ⟨_, rfl⟩
  obtain ⟨S, hS⟩ : ∃ S, d.size = S := ⟨_, rfl⟩
  rw [hNe] at x1 hN hyl HT
  rw [hS] at x0 HT
  have hN1 : 1 ≤ N := by rw [← hNe]; exact h.ok.n1
  obtain ⟨wd, hwd⟩ : ∃ y, w.drew = y := ⟨_, rfl⟩
  have hdd : Below w.heap.size w wd := by rw [← hwd]; exact (Below.refl _ _).drew
  have hzd : wd.heap.size = w.heap.size := by rw [← hwd]; rfl
  have hbe : Below w.heap.size w (wd.alloc (.cells #[] 86)) := hdd.alloc (by omega) _
  have hE : (wd.alloc (.cells #[] 86)).ownsRow w.heap.size 86 4 (.slice (some ⟨wd.heap.size, 0, none⟩) 0 0) 0 [] :=
    own_weak (World.ownsRow_made wd #[] 0 (Nat.le_refl _) (by unfold maxLen; omega) (by simp)) (by omega)
  rw [hzd] at hE
  have hSt : ∀ Z, Below w.heap.size w Z → Z.cell? ⟨t, 0, none⟩ = some (.int .i64 (S : Int)) ∧ Z.cell? ⟨t, 1, none⟩ = some (.slice (some ⟨f, 0, none⟩) N cc) ∧ Z.cell? ⟨t, 2, none⟩ = some (.bool bz) ∧ Z.cell? ⟨t, 3, none⟩ = some (.int .i64 mz) := fun Z hZ => ⟨below_cell08 hZ x0, below_cell08 hZ x1, below_cell08 hZ x2, below_cell08 hZ x3⟩
  have HSt := hide hSt
  have Hwd := hide hwd
  clear h b1 hys hbz hmz hNe hS hwd hSt
  go_enter Try.func20, Try.ntmps20
  go_wp2_with fail
  have hS0 := HSt.out _ hdd
  rw [← Hwd.out] at hS0
  refine wp_region_held_drew (S := fun Z => Z.cell? ⟨t, 0, none⟩ = some (.int .i64 (S : Int)) ∧ Z.cell? ⟨t, 1, none⟩ = some (.slice (some ⟨f, 0, none⟩) N cc) ∧ Z.cell? ⟨t, 2, none⟩ = some (.bool bz) ∧ Z.cell? ⟨t, 3, none⟩ = some (.int .i64 mz)) (by kernel_rfl) hS0 (fun _ => ?_)
  refine wpAnyH_take (fuel := 20) (i := 0) (v := .pointer (some ⟨t, 0, none⟩)) rfl (by kernel_rfl) (by kernel_rfl) (by kernel_rfl) (fun _ _ _ h => h) (Or.inl ⟨by rfl, fun Z hZ => ?_⟩) hS0 ?_
  · obtain ⟨z1, z2, z3, z4⟩ := hZ
    go_simp
  refine wpAnyH_take (fuel := 19) (i := 1) (v := .pointer (some ⟨t, 0, none⟩)) rfl (by kernel_rfl) (by kernel_rfl) (by kernel_rfl) (fun _ _ _ h => h) (Or.inl ⟨by rfl, fun Z hZ => ?_⟩) hS0 ?_
  · obtain ⟨z1, z2, z3, z4⟩ := hZ
    go_simp
  refine wpAnyH_take (fuel := 18) (i := 2) (v := .pointer (some ⟨t, 0, none⟩)) rfl (by kernel_rfl) (by kernel_rfl) (by kernel_rfl) (fun _ _ _ h => h) (Or.inl ⟨by rfl, fun Z hZ => ?_⟩) hS0 ?_
  · obtain ⟨z1, z2, z3, z4⟩ := hZ
    go_simp
  refine wpAnyH_take (fuel := 17) (i := 3) (v := .int .i64 (S : Int)) rfl (by kernel_rfl) (by kernel_rfl) (by kernel_rfl) (fun _ _ _ h => h) (Or.inl ⟨by rfl, fun Z hZ => ?_⟩) hS0 ?_
  · obtain ⟨z1, z2, z3, z4⟩ := hZ
    go_simp
  refine wpAnyH_take (fuel := 16) (i := 5) (v := .pointer (some ⟨t, 0, none⟩)) rfl (by kernel_rfl) (by kernel_rfl) (by kernel_rfl) (fun _ _ _ h => h) (Or.inl ⟨by rfl, fun Z hZ => ?_⟩) hS0 ?_
  · obtain ⟨z1, z2, z3, z4⟩ := hZ
    go_simp
  refine wpAnyH_take (fuel := 15) (i := 6) (v := .pointer (some ⟨t, 0, none⟩)) rfl (by kernel_rfl) (by kernel_rfl) (by kernel_rfl) (fun _ _ _ h => h) (Or.inl ⟨by rfl, fun Z hZ => ?_⟩) hS0 ?_
  · obtain ⟨z1, z2, z3, z4⟩ := hZ
    go_simp
  refine wpAnyH_take (fuel := 14) (i := 7) (v := .pointer (some ⟨t, 1, none⟩)) rfl (by kernel_rfl) (by kernel_rfl) (by kernel_rfl) (fun _ _ _ h => h) (Or.inl ⟨by rfl, fun Z hZ => ?_⟩) hS0 ?_
  · obtain ⟨z1, z2, z3, z4⟩ := hZ
    go_simp
  refine wpAnyH_take (fuel := 13) (i := 8) (v := .slice (some ⟨f, 0, none⟩) N cc) rfl (by kernel_rfl) (by kernel_rfl) (by kernel_rfl) (fun _ _ _ h => h) (Or.inl ⟨by rfl, fun Z hZ => ?_⟩) hS0 ?_
  · obtain ⟨z1, z2, z3, z4⟩ := hZ
    go_simp
  refine wpAnyH_take (fuel := 12) (i := 10) (v := .pointer (some ⟨t, 0, none⟩)) rfl (by kernel_rfl) (by kernel_rfl) (by kernel_rfl) (fun _ _ _ h => h) (Or.inl ⟨by rfl, fun Z hZ => ?_⟩) hS0 ?_
  · obtain ⟨z1, z2, z3, z4⟩ := hZ
    go_simp
  refine wpAnyH_take (fuel := 11) (i := 11) (v := .pointer (some ⟨t, 0, none⟩)) rfl (by kernel_rfl) (by kernel_rfl) (by kernel_rfl) (fun _ _ _ h => h) (Or.inl ⟨by rfl, fun Z hZ => ?_⟩) hS0 ?_
  · obtain ⟨z1, z2, z3, z4⟩ := hZ
    go_simp
  refine wpAnyH_take (fuel := 10) (i := 12) (v := .pointer (some ⟨t, 2, none⟩)) rfl (by kernel_rfl) (by kernel_rfl) (by kernel_rfl) (fun _ _ _ h => h) (Or.inl ⟨by rfl, fun Z hZ => ?_⟩) hS0 ?_
  · obtain ⟨z1, z2, z3, z4⟩ := hZ
    go_simp
  refine wpAnyH_take (fuel := 9) (i := 13) (v := .bool bz) rfl (by kernel_rfl) (by kernel_rfl) (by kernel_rfl) (fun _ _ _ h => h) (Or.inl ⟨by rfl, fun Z hZ => ?_⟩) hS0 ?_
  · obtain ⟨z1, z2, z3, z4⟩ := hZ
    go_simp
  refine wpAnyH_take (fuel := 8) (i := 14) (v := .pointer (some ⟨t, 0, none⟩)) rfl (by kernel_rfl) (by kernel_rfl) (by kernel_rfl) (fun _ _ _ h => h) (Or.inl ⟨by rfl, fun Z hZ => ?_⟩) hS0 ?_
  · obtain ⟨z1, z2, z3, z4⟩ := hZ
    go_simp
  refine wpAnyH_take (fuel := 7) (i := 15) (v := .pointer (some ⟨t, 0, none⟩)) rfl (by kernel_rfl) (by kernel_rfl) (by kernel_rfl) (fun _ _ _ h => h) (Or.inl ⟨by rfl, fun Z hZ => ?_⟩) hS0 ?_
  · obtain ⟨z1, z2, z3, z4⟩ := hZ
    go_simp
  refine wpAnyH_take (fuel := 6) (i := 16) (v := .pointer (some ⟨t, 3, none⟩)) rfl (by kernel_rfl) (by kernel_rfl) (by kernel_rfl) (fun _ _ _ h => h) (Or.inl ⟨by rfl, fun Z hZ => ?_⟩) hS0 ?_
  · obtain ⟨z1, z2, z3, z4⟩ := hZ
    go_simp
  refine wpAnyH_take (fuel := 5) (i := 17) (v := .int .i64 mz) rfl (by kernel_rfl) (by kernel_rfl) (by kernel_rfl) (fun _ _ _ h => h) (Or.inl ⟨by rfl, fun Z hZ => ?_⟩) hS0 ?_
  · obtain ⟨z1, z2, z3, z4⟩ := hZ
    go_simp
  have hrA := hrow.below hbe
  have HSe := HSt.out _ hbe
  rw [Hwd.out]
  refine all_one (fuel := 4) (i := 4) (by kernel_rfl) rfl rfl (fun Kk hK => ?_)
  go_simp
  refine hK _ _ ⟨HSe, ?_⟩
  clear hK Kk
  refine all_one (fuel := 3) (i := 9) (by kernel_rfl) rfl rfl (fun Kk hK => ?_)
  refine oper_own rfl tSecs (base := w.heap.size) (e := 86) (by rfl) hE (A := some ⟨f, 0, none⟩) (m := N) (c := cc) (by rfl) hyl hrA hone (by omega) (by omega) (by simp; omega) ?_
  intro v1 w3 hO1 hg1 hv1
  rw [Nat.zero_add, List.nil_append] at hO1
  have hb3 : Below w.heap.size w w3 := hbe.grown hg1 (by simp; omega) (fun k hk => by simp [Value.ownBlock] at hk; omega)
  have HS3 := HSt.out _ hb3
  obtain ⟨w4, hw4⟩ : ∃ y, w3.alloc (.cells #[.int .i64 (S : Int), v1, .bool bz, .int .i64 mz] 47) = y := ⟨_, rfl⟩
  have hb34 : Below w3.heap.size w3 w4 := by rw [← hw4]; exact (Below.refl _ _).alloc (Nat.le_refl _) _
  have hz3 : w.heap.size ≤ w3.heap.size := hb3.size
  have hb4 : Below w.heap.size w w4 := hb3.trans (hb34.mono hz3)
  have HS4 := HSt.out _ hb4
  have hB4 : Blk w4 w3.heap.size [.int .i64 (S : Int), v1, .bool bz, .int .i64 mz] 47 := by rw [← hw4]; exact Blk.new w3 _ _
  have hlo1 : v1.ownBlock ≠ some w3.heap.size := fun e => by
    obtain ⟨A3, c3, rfl, _, _, _, _, hlo⟩ := own_out hO1
    cases A3 with
    | none => simp [Value.ownBlock] at e
    | some a3 => simp [Value.ownBlock] at e; have := (hlo a3 rfl).2; omega
  obtain ⟨A3, c3, hv3, _⟩ := own_out hO1
  obtain ⟨f2, cs2, HR, HR2⟩ := HT.out w4 w3.heap.size v1 hb4 hz3 (own_below hO1 hb34) hB4 hlo1
  have HR := hide HR
  subst hv3
  clear hO1 hg1 hv1 hlo1 hB4 hb34 HT
  refine hK _ _ ⟨HS3, ?_⟩
  clear hK Kk
  refine all_one (fuel := 2) (i := 18) (by kernel_rfl) rfl rfl (fun Kk hK => ?_)
  go_simp
  refine hK _ _ ⟨HS3, ?_⟩
  clear hK Kk
  refine all_one (fuel := 1) (i := 19) (by kernel_rfl) rfl rfl (fun Kk hK => ?_)
  go_simp
  try rw [hw4]
  refine hK _ _ ⟨HS4, ?_⟩
  clear hK Kk
  refine all_one (fuel := 0) (i := 20) (by kernel_rfl) rfl rfl (fun Kk hK => ?_)
  go_simp
  refine hK _ _ ⟨HS4, ?_⟩
  clear hK Kk
  refine wpAnyH_done (by kernel_rfl) ?_ _
  go_wp2
  go_ret
  exact ⟨_, f2, cs2, rfl, HR.out, hz3, HR2, hb4⟩
end
end Go.Proofs.Ytdianokikhggnaa
