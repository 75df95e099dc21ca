/- Package sector: Loose. -/
import Derived.Test.YtdianokikhggnaaF08g
import Derived.Test.YtdianokikhggnaaS08
import Derived.Test.YtdianokikhggnaaM13b
namespace Go.Proofs.Ytdianokikhggnaa
set_option maxRecDepth 20000
open Go.RowKit Go.Px Go.Maps
set_option linter.unusedVariables false
section
variable {w : World} {Q : Nat → Prop} {t f lm bm : Nat} {d : Dk}
/-- The sectors that are loose, rising. -/
def Dk.looseL (d : Dk) : List Int := ((List.range d.fast.length).map Int.ofNat).filter fun i => (d.loose i).isSome
theorem Dk.mem_looseL (ok : d.Ok) {x : Int} : x ∈ d.looseL ↔ (d.loose x).isSome = true := by
  unfold Dk.looseL
  rw [List.mem_filter, List.mem_map]
  constructor
  · exact fun h => h.2
  · intro h
    refine ⟨?_, h⟩
    obtain ⟨b, hb⟩ := Option.isSome_iff_exists.1 h
    have := ok.lo x b hb
    exact ⟨x.toNat, by rw [List.mem_range]; omega, by show ((x.toNat : Nat) : Int) = x; omega⟩
theorem asc_range : ∀ n : Nat, Asc ((List.range n).map Int.ofNat)
  | 0 => List.Pairwise.nil
  | n + 1 => by
    rw [List.range_succ, List.map_append]
    unfold Asc
    rw [List.pairwise_append]
    refine ⟨asc_range n, by simp, fun x hx y hy => ?_⟩
    obtain ⟨k, hk, rfl⟩ := List.mem_map.1 hx
    rw [List.mem_range] at hk
    simp at hy
    subst hy
    show ((k : Nat) : Int) < ((n : Nat) : Int)
    omega
theorem Dk.looseL_asc (d : Dk) : Asc d.looseL := (asc_range _).filter _
theorem Dk.looseL_len (d : Dk) : d.looseL.length ≤ d.fast.length := by
  unfold Dk.looseL
  refine Nat.le_trans (List.length_filter_le _ _) ?_
  simp
theorem sort_asc {l : List Int} (h : l.Nodup) : Asc (l.mergeSort fun x y => decide (x ≤ y)) := by
  have hp : (l.mergeSort fun x y => decide (x ≤ y)).Perm l := List.mergeSort_perm _ _
  have h1 := List.pairwise_mergeSort (le := fun x y : Int => decide (x ≤ y)) (by intro a b c; simp; omega) (by intro a b; simp; omega) l
  have h2 : (l.mergeSort fun x y => decide (x ≤ y)).Nodup := hp.nodup_iff.2 h
  refine (h1.and h2).imp ?_
  rintro a b ⟨h3, h4⟩
  have : a ≤ b := by simpa using h3
  omega
theorem loose08_any (h : DIs w Q t f lm bm d) : Calls Try.prog 16 #[.pointer (some ⟨t, 0, none⟩)] w fun e w' => ∃ A c, e = .returned (.slice A d.looseL.length c) ∧ d.looseL.length ≤ c ∧ c ≤ 9223372036854775807 ∧ Rd w' A (ints d.looseL) ∧ (∀ a, A = some a → w.heap.size ≤ a.block) ∧ Below w.heap.size w w' := by
  obtain ⟨cc, b1, _⟩ := h.blk
  have x2 := b1.cell (j := 2) rfl
  obtain ⟨D, l1, l2⟩ := h.lo
  have hsz := h.lo_size l1 l2
  have hlen := l1.len Try.underlying56 3
  obtain ⟨k1, k2, k3⟩ := keys08 l1
  have hkm : ∀ x, x ∈ intKeys D ↔ x ∈ d.looseL := fun x => by
    rw [k2 x, Dk.mem_looseL h.ok]
    have := l2 x
    cases hl : d.loose x with
    | none => rw [hl] at this; rw [show Maps.has D (.int .i64 x) = false from this]; simp
    | some bs => rw [hl] at this; rw [this.1]; simp
  have HM := hide (made08_any h)
  have HSK := hide (Try.sorted_Keys08 lm _ D rdS w l1 (by unfold maxLen; omega) (by omega))
  have HMK := hide (Try.maps_Keys08 (some lm) w)
  have hba : Below w.heap.size w (w.alloc (.cells #[.map (some lm)] 56)) := (Below.refl _ _).alloc (Nat.le_refl _) _
  have hea : (w.alloc (.cells #[.map (some lm)] 56)).heap.size = w.heap.size + 1 := World.size_alloc _ _
  obtain ⟨L, hL⟩ : ∃ L, d.looseL = L := ⟨_, rfl⟩
  have hasc := Dk.looseL_asc d
  rw [hL] at hkm hasc ⊢
  by_cases h0 : Maps.size D = 0
  · rw [h0] at hlen k3
    have hn : L = [] := by
      refine List.eq_nil_iff_forall_not_mem.2 fun x hx => ?_
      have := (hkm x).2 hx
      rw [List.eq_nil_of_length_eq_zero k3] at this
      cases this
    subst hn
    clear h b1 l1 l2 hL hasc hkm
    go_enter Try.func16, Try.ntmps16
    go_wp2_with fail
    go_fit HM.out
    rintro x w1 ⟨rfl, rfl⟩
    go_wp2
    go_ret
    exact ⟨none, 0, rfl, Nat.le_refl _, by omega, Rd.nil, fun a ha => (by cases ha), Below.refl _ _⟩
  · obtain ⟨Z, hZ⟩ : ∃ Z, Maps.size D = Z := ⟨_, rfl⟩
    rw [hZ] at hlen h0
    have q0 : ((Z : Int) == 0) = false := by simp; omega
    have Hkm := hide hkm
    have Hk1 := hide k1
    have Hasc := hide hasc
    clear h b1 l1 l2 hL hasc hkm k1 k2 hZ
    go_enter Try.func16, Try.ntmps16
    go_wp2_with fail
    go_fit HM.out
    rintro x w1 ⟨rfl, rfl⟩
    go_wp2_with fail
    refine HMK.out.mono ?_
    rintro x w1 ⟨rfl, rfl⟩
    go_wp2_with fail
    refine HSK.out.mono ?_
    rintro x w2 ⟨v, ss, rfl, hp, hO, _, hb2⟩
    have hss : (ss.mergeSort fun x y => decide (x ≤ y)) = L := by
      refine asc_ext (sort_asc (hp.nodup_iff.2 Hk1.out)) Hasc.out (fun x => ?_)
      rw [(List.mergeSort_perm ss _).mem_iff, hp.mem_iff, Hkm.out]
    rw [hss] at hO
    have hlen2 : ss.length = L.length := by rw [← hss, List.length_mergeSort]
    rw [hlen2] at hO
    obtain ⟨A, c, rfl, _, hc, hcm, hr, ha⟩ := own_out hO
    have HR := hide hr
    have Hb := hide (hba.trans (hb2.mono hba.size))
    unfold maxLen at hcm
    clear hO hr hss hlen2 hb2
    go_wp2
    go_ret
    exact ⟨A, c, rfl, hc, by omega, HR.out, fun a h => by have := (ha a h).1; omega, Hb.out⟩
end
end Go.Proofs.Ytdianokikhggnaa
