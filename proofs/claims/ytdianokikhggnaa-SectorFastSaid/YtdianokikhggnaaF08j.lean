/- Package sector: torn, Spoil, Bad. -/
import Derived.Test.YtdianokikhggnaaF08i
namespace Go.Proofs.Ytdianokikhggnaa
set_option maxRecDepth 20000
open Go.RowKit Go.Px Go.Maps
set_option linter.unusedVariables false
section
variable {w : World} {Q : Nat → Prop} {t f lm bm : Nat} {d : Dk}
theorem copy_to {W : World} {o a m c dLen dCap : Nat} {A : Option Addr} {cs ys : List Value} (hB : Blk W o cs 5) (hys : ys.length = m) (hr : Rd W A ys) (h1 : ∀ u ∈ ys, u.oneCell' = true) (hd : m ≤ dLen) (hfit : a + m ≤ cs.length) (ty : TypeId) :
    ∃ W', (Builtin.copy_ #[29, 29] ty #[.slice (some ⟨o, a, none⟩) dLen dCap, .slice A m c]).run Try.prog W = .ok (goInt (m : Nat)) W' ∧ Blk W' o (spl cs a ys) 5 ∧ Fr (fun x => x = o) W W' := by
  have := run_copyB (P := Try.prog) (w := W) (dT := 29) (sT := 29) (ty := ty) (dLen := dLen) (dCap := dCap) (off := a) (m := m) (c := c) (A := A) (ys := ys) hB tBytes hys hr h1 (by omega)
  rw [Nat.min_eq_left hd, List.take_of_length_le (by omega)] at this
  exact ⟨_, this, blk_setRow hB, fr_setRow _ _ _⟩
theorem copy_sec {W : World} {o S n c : Nat} {A : Option Addr} {bs : List UInt8} (hB : Blk W o (bys (List.replicate S 0)) 5) (hs : SecIs W Q (.slice A n c) bs) (hl : bs.length = S) (ty : TypeId) :
    ∃ W', (Builtin.copy_ #[29, 29] ty #[.slice (some ⟨o, 0, none⟩) S S, .slice A n c]).run Try.prog W = .ok (goInt (n : Nat)) W' ∧ Blk W' o (bys bs) 5 ∧ Fr (fun x => x = o) W W' := by
  obtain ⟨A', n', c', hv, hnc, hc, hcase⟩ := hs
  injection hv with e1 e2 e3
  subst e1 e2 e3
  rcases hcase with ⟨rfl, rfl, rfl, hz⟩ | ⟨hn, hr, _⟩
  · obtain ⟨W', h1, h2, h3⟩ := copy_to (a := 0) (m := 0) (c := 0) (dLen := S) (dCap := S) (A := none) (ys := []) hB rfl Rd.nil (fun u hu => by cases hu) (Nat.zero_le _) (by simp) ty
    rw [spl_nil] at h2
    rw [hl] at hz
    exact ⟨W', h1, by rw [hz]; exact h2, h3⟩
  · obtain ⟨W', h1, h2, h3⟩ := copy_to (a := 0) (m := n) (c := c) (dLen := S) (dCap := S) (A := A) (ys := bys bs) hB (by rw [bys_length, hn]) hr (bys_one _) (by omega) (by rw [bys_length, List.length_replicate]; omega) ty
    refine ⟨W', h1, ?_, h3⟩
    have e : spl (bys (List.replicate S 0)) 0 (bys bs) = bys bs := by
      unfold spl
      rw [List.take_zero, List.nil_append, Nat.zero_add, List.drop_of_length_le (by rw [bys_length, bys_length, List.length_replicate]; omega), List.append_nil]
    rw [e] at h2; exact h2
theorem zeros_blk (W : World) (S : Nat) : Blk (W.alloc (.cells (Array.replicate S (.int .u8 0)) 5)) W.heap.size (bys (List.replicate S 0)) 5 := by
  rw [show bys (List.replicate S 0) = List.replicate S (.int .u8 0) by simp [bys], show Array.replicate S (Value.int .u8 0) = (List.replicate S (Value.int .u8 0)).toArray by simp]
  exact Blk.new W _ _
/-- A beginning of what is loose, with the rest of what is fast. -/
def tornB (S : Nat) (new old : List UInt8) (cut : Int) : List UInt8 := new.take (min (max cut 0) S).toNat ++ old.drop (min (max cut 0) S).toNat
theorem tornB_len {S : Nat} {new old : List UInt8} (h1 : new.length = S) (h2 : old.length = S) (cut : Int) : (tornB S new old cut).length = S := by
  unfold tornB; rw [List.length_append, List.length_take, List.length_drop]; omega
set_option maxHeartbeats 1600000 in
theorem torn08_any (h : DIs w Q t f lm bm d) (i : Nat) (hi : i < d.fast.length) (bs : List UInt8) (hl : d.loose (i : Int) = some bs) (cut : Int) (hc1 : -9223372036854775808 ≤ cut) (hc2 : cut ≤ 9223372036854775807) :
    Calls Try.prog 44 #[.pointer (some ⟨t, 0, none⟩), .int .i64 (i : Int), .int .i64 cut] w fun e w' => e = .returned (.slice (some ⟨w.heap.size, 0, none⟩) d.size d.size) ∧ Rd w' (some ⟨w.heap.size, 0, none⟩) (bys (tornB d.size bs d.fast[i] cut)) ∧ w.heap.size < w'.heap.size ∧ Below w.heap.size w w' := by
  have hs1 := h.ok.s1
  have hs2 := h.ok.s2
  have hN := h.ok.n2
  have hbl := (h.ok.lo _ _ hl).2.2
  have hfl := h.ok.fl _ (List.getElem_mem hi)
  have hba : Below w.heap.size w (w.alloc (.cells (Array.replicate d.size (.int .u8 0)) 5)) := (Below.refl _ _).alloc (Nat.le_refl _) _
  have h1 := h.below hba
  obtain ⟨v, hv, hsec⟩ := h1.sec hi
  have hsec0 := hsec
  obtain ⟨A, n, c, rfl, _⟩ := hsec
  obtain ⟨w2, hcp1, hB2, hF2⟩ := copy_sec (zeros_blk w d.size) hsec0 hfl 3
  have hlts := h.lts
  have hne : ∀ x, OwnB t f lm bm x → ¬ x = w.heap.size := fun x hx e => by rcases hx with h | h | h | h <;> omega
  have hb2 : Below w.heap.size w w2 := hF2.below hba (by simp) (fun k hk => by omega)
  have h2 := h.below hb2
  obtain ⟨A2, n2, c2, hlook, e1, e2, e3, e4, e5⟩ := h2.look_some hl
  obtain ⟨cc, b1, _⟩ := h.blk
  have x0 := b1.cell (j := 0) rfl
  have y1 := (b1.below hba).cell (j := 1) rfl
  have z2 := (b1.below hb2).cell (j := 2) rfl
  have hm1 := fun W => run_mkB (P := Try.prog) (t := 29) (e := 5) (z := .int .u8 0) (bytes := 1) Try.underlying29 (by kernel_rfl) rfl (N := d.size) (by omega) (by omega) W
  have htb : ∀ C : Nat, (min (max cut 0) (d.size : Int)).toNat = C → tornB d.size bs d.fast[i] cut = bs.take C ++ d.fast[i].drop C := fun C hC => by unfold tornB; rw [hC]
  obtain ⟨fi, hfi⟩ : ∃ fi, d.fast[i] = fi := ⟨_, rfl⟩
  rw [hfi] at hfl hB2 htb ⊢
  obtain ⟨S, hS⟩ : ∃ S, d.size = S := ⟨_, rfl⟩
  rw [hS] at hs1 hs2 hbl hfl hba hcp1 hm1 htb x0 y1 ⊢
  rw [hS] at hF2 hv
  obtain ⟨N, hNe⟩ : ∃ N, d.fast.length = N := ⟨_, rfl⟩
  rw [hNe] at y1 hi hN
  have hcopy : ∀ C : Nat, C ≤ S → ∃ w3, (Builtin.copy_ #[29, 29] 3 #[.slice (some ⟨w.heap.size, 0, none⟩) S S, .slice A2 C c2]).run Try.prog w2 = .ok (goInt (C : Nat)) w3 ∧ Rd w3 (some ⟨w.heap.size, 0, none⟩) (bys (bs.take C ++ fi.drop C)) ∧ w.heap.size < w3.heap.size ∧ Below w.heap.size w w3 := fun C hC => by
    obtain ⟨w3, k1, k2, k3⟩ := copy_to (a := 0) (m := C) (c := c2) (dLen := S) (dCap := S) (A := A2) (ys := bys (bs.take C)) hB2 (by rw [bys_length, List.length_take]; omega) (by rw [bys_take]; exact e4.take C) (bys_one _) hC (by rw [bys_length]; omega) 3
    have e : spl (bys fi) 0 (bys (bs.take C)) = bys (bs.take C ++ fi.drop C) := by
      unfold spl
      rw [List.take_zero, List.nil_append, Nat.zero_add, bys_append, bys_length, List.length_take, Nat.min_eq_left (by omega), bys_drop]
    rw [e] at k2
    refine ⟨w3, k1, Rd.of_some fun j u hu => ?_, by have := k3.size; have := k2.lt; omega, k3.below hb2 hb2.size (fun k hk => by omega)⟩
    have := k2.cell hu
    rwa [show (⟨w.heap.size, 0, none⟩ : Addr).add j = ⟨w.heap.size, j, none⟩ by unfold Addr.add; split <;> simp_all]
  have hls : n2 = S := by omega
  subst hls
  clear h h1 h2 b1 hsec0 hF2 hB2 hne hl hbl hfi hS hNe e4 e5 hb2 hlts
  have hCn : (min (max cut 0) (n2 : Int)).toNat ≤ n2 := by omega
  have hCc : (min (max cut 0) (n2 : Int)).toNat ≤ c2 := by omega
  obtain ⟨w3, k1, k2, k3, k4⟩ := hcopy _ hCn
  rw [htb _ rfl]
  have HR := hide (And.intro k2 (And.intro k3 k4))
  clear htb hcopy k2 k3 k4
  go_enter Try.func44, Try.ntmps44
  go_wp2
  go_ret
  exact ⟨rfl, HR.out⟩
end
end Go.Proofs.Ytdianokikhggnaa
