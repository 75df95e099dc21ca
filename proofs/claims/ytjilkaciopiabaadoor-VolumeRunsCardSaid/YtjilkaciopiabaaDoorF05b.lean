/- volume.done. -/
import Derived.Test.YtjilkaciopiabaaDoorF05a
namespace Go.Proofs.YtjilkaciopiabaaDoor
open Go.RowKit Go.Px
set_option linter.unusedVariables false
theorem below_drewN {B : Nat} {w w' : World} (h : Below B w w') (n : Nat) : Below B w (w'.drewN n) := ⟨h.os, h.tape, h.output, h.size, h.block⟩
theorem leBk {B g j : Nat} (h : B ≤ g) : B ≤ (⟨g, j, none⟩ : Addr).block := h
theorem VolIs.far {w : World} {v r s b z N g : Nat} {bs : List UInt8} {vs : List Int} {last : Int} (h : VolIs w v r s b z N bs vs last) (hv : v ≠ g) (hr : r ≠ g) (hs : s ≠ g) (j : Nat) (u : Value) : VolIs (w.setCell ⟨g, j, none⟩ u) v r s b z N bs vs last :=
  { h with blk := h.blk.apart hv j u, row := h.row.apart hr j u, ver := h.ver.apart hs j u }
theorem size_setCell' (w : World) (a : Addr) (u : Value) : (w.setCell a u).heap.size = w.heap.size := by simp
def segB (bs : List UInt8) (p n z : Nat) : List UInt8 := (bs.drop (p * z)).take (n * z)
theorem segB_length {bs : List UInt8} {p n z b N : Nat} (hb : bs.length = N) (hN : b * z = N) (h : p + n ≤ b) : (segB bs p n z).length = n * z := by
  have := mul_le h hN
  rw [Nat.add_mul] at this
  unfold segB
  rw [List.length_take, List.length_drop, hb]; omega
def splB (bs : List UInt8) (off : Nat) (xs : List UInt8) : List UInt8 := bs.take off ++ xs ++ bs.drop (off + xs.length)
theorem bys_splB (bs : List UInt8) (off : Nat) (xs : List UInt8) : bys (splB bs off xs) = spl (bys bs) off (bys xs) := by
  unfold splB spl; simp [bys]
theorem splB_length {bs xs : List UInt8} {off : Nat} (h : off + xs.length ≤ bs.length) : (splB bs off xs).length = bs.length := by
  unfold splB; simp only [List.length_append, List.length_take, List.length_drop]; omega
theorem VolIs.seg {w : World} {v r s b z N : Nat} {bs : List UInt8} {vs : List Int} {last : Int} (h : VolIs w v r s b z N bs vs last) (p n : Nat) : Rd w (some ⟨r, p * z, none⟩) (bys (segB bs p n z)) := by
  refine Rd.of_some fun j u hu => ?_
  unfold segB at hu
  rw [bys_take, bys_drop, List.getElem?_take] at hu
  split at hu
  · rw [List.getElem?_drop] at hu
    have := h.row.cell hu
    rwa [show (⟨r, p * z, none⟩ : Addr).add j = ⟨r, p * z + j, none⟩ by unfold Addr.add; split <;> simp_all]
  · cases hu
theorem VolIs.setRow {w : World} {v r s b z N : Nat} {bs : List UInt8} {vs : List Int} {last : Int} (h : VolIs w v r s b z N bs vs last) (bs' : List UInt8) (hl : bs'.length = N) : VolIs (w.setRow r (bys bs').toArray) v r s b z N bs' vs last :=
  { h with blk := h.blk.apartAll h.vr _, row := h.row.setAll _, ver := h.ver.apartAll (Ne.symm h.rs) _, lb := hl }
theorem VolIs.drew {w : World} {v r s b z N : Nat} {bs : List UInt8} {vs : List Int} {last : Int} (h : VolIs w v r s b z N bs vs last) : VolIs w.drew v r s b z N bs vs last := { h with blk := h.blk, row := h.row, ver := h.ver }
theorem copy_row {w : World} {v r s b z N : Nat} {bs : List UInt8} {vs : List Int} {last : Int} (h : VolIs w v r s b z N bs vs last) {p n d dc : Nat} {D : Option Addr} {ds : List UInt8} (hd : ds.length = d) (hD : Rd w D (bys ds)) (hdz : d = n * z) (hin : p + n ≤ b) (ty : TypeId) :
    (Builtin.copy_ #[36, 36] ty #[.slice (some ⟨r, p * z, none⟩) (n * z) (n * z), .slice D d dc]).run Tryd.prog w = .ok (goInt (d : Nat)) (w.setRow r (bys (splB bs (p * z) ds)).toArray) := by
  have hpn := mul_le hin h.hN
  rw [Nat.add_mul] at hpn
  have := run_copyB (P := Tryd.prog) (w := w) (dT := 36) (sT := 36) (ty := ty) (dLen := n * z) (dCap := n * z) (off := p * z) (m := d) (c := dc) (A := D) (ys := bys ds) h.row tBytes (by rw [bys_length, hd]) hD (bys_one _) (by rw [bys_length, h.lb]; omega)
  rw [this, List.take_of_length_le (by rw [bys_length]; omega), ← bys_splB, show min d (n * z) = d by omega]
theorem clear_row {w : World} {v r s b z N : Nat} {bs : List UInt8} {vs : List Int} {last : Int} (h : VolIs w v r s b z N bs vs last) {p n c : Nat} (hin : p + n ≤ b) (ty : TypeId) :
    (Builtin.clear_ #[36] ty #[.slice (some ⟨r, p * z, none⟩) (n * z) c]).run Tryd.prog w = .ok (.tuple #[]) (w.setRow r (bys (splB bs (p * z) (List.replicate (n * z) 0))).toArray) := by
  have hpn := mul_le hin h.hN
  rw [Nat.add_mul] at hpn
  have := run_clearB (P := Tryd.prog) (w := w) (dT := 36) (ty := ty) (off := p * z) (n := n * z) (c := c) (zv := .int .u8 0) h.row Tryd.underlying36 (by kernel_rfl) rfl rfl (by rw [bys_length, h.lb]; omega)
  rw [this, bys_splB]
  congr 4
  simp [bys]
theorem setRow_grown {w : World} {r : Nat} {cs : List Value} : w.grownBy (w.setRow r cs.toArray) (some r) :=
  ⟨rfl, rfl, rfl, by simp [World.setRow], fun k _ hne => heap_setRow_other w r k _ (by intro e; exact hne (by rw [e]))⟩
theorem blk_grown {w w' : World} {g b : Nat} {vs : List Value} {T : TypeId} (h : Blk w g vs T) (k : w.grownBy w' (some b)) (hne : g ≠ b) : Blk w' g vs T :=
  (k.block g h.lt (by intro e; injection e with e; exact hne e)).trans h
/-- What was done: the result's code and data, the volume behind it, all else unturned. -/
def DoneIs (v r s b z N : Nat) (code : Nat) (data : List UInt8) (bs' : List UInt8) (vs' : List Int) (last : Int) (w : World) (e : Ending) (w' : World) : Prop :=
  ∃ A c, e = .returned (resv code A data.length c) ∧ Rd w' A (bys data) ∧ (∀ a, A = some a → w.heap.size ≤ a.block) ∧ VolIs w' v r s b z N bs' vs' last ∧ w.heap.size ≤ w'.heap.size ∧ w'.os = w.os ∧ w'.tape = w.tape ∧ w'.output = w.output ∧ ∀ k, k < w.heap.size → k ≠ r → k ≠ s → w'.heap[k]? = w.heap[k]?

set_option maxHeartbeats 3200000 in
theorem done_read (w : World) (v r s b z N : Nat) (bs : List UInt8) (vs : List Int) (last : Int) (p n : Nat) (D : Option Addr) (d dc : Nat) (O : Option Addr) (o oc : Nat) (num : Int) (h : VolIs w v r s b z N bs vs last) (hn : 1 ≤ n) (hin : p + n ≤ b) :
    Calls Tryd.prog 29 #[.pointer (some ⟨v, 0, none⟩), opv 1 p n D d dc O o oc, .int .i64 num] w (DoneIs v r s b z N 1 (segB bs p n z) bs vs last w) := by
  obtain ⟨g, hg⟩ : ∃ g, w.heap.size = g := ⟨_, rfl⟩
  obtain ⟨w0, hw0⟩ : ∃ w0, ((w.alloc (.cells #[.int .u8 1, .int .i64 p, .int .i64 n, .slice D d dc, .slice O o oc] 38)).alloc (.cells #[.int .u8 0, .slice none 0 0] 49)).alloc (.cells #[.int .u8 1, .slice none 0 0] 49) = w0 := ⟨_, rfl⟩
  have hO : Blk w0 g [.int .u8 1, .int .i64 p, .int .i64 n, .slice D d dc, .slice O o oc] 38 := by rw [← hw0, ← hg]; exact ((Blk.new w [.int .u8 1, .int .i64 p, .int .i64 n, .slice D d dc, .slice O o oc] _).alloc _).alloc _
  have hZ : Blk w0 (g + 1) [.int .u8 0, .slice none 0 0] 49 := by
    rw [← hw0, ← hg]
    have := (Blk.new (w.alloc (.cells #[.int .u8 1, .int .i64 p, .int .i64 n, .slice D d dc, .slice O o oc] 38)) [.int .u8 0, .slice none 0 0] 49).alloc (.cells #[.int .u8 1, .slice none 0 0] 49)
    rwa [World.size_alloc] at this
  have hR : Blk w0 (g + 1 + 1) [.int .u8 1, .slice none 0 0] 49 := by
    rw [← hw0, ← hg]
    have := Blk.new ((w.alloc (.cells #[.int .u8 1, .int .i64 p, .int .i64 n, .slice D d dc, .slice O o oc] 38)).alloc (.cells #[.int .u8 0, .slice none 0 0] 49)) [.int .u8 1, .slice none 0 0] 49
    rwa [World.size_alloc, World.size_alloc] at this
  have hb0 : Below w.heap.size w w0 := by rw [← hw0]; exact (((Below.refl _ _).alloc (Nat.le_refl _) _).alloc (by simp) _).alloc (by simp; omega) _
  have hV0 := h.below hb0
  have Hw0 := hide hw0
  have vlt := h.blk.lt
  have rlt := h.row.lt
  have slt := h.ver.lt
  clear hw0
  have hsl := segB_length (bs := bs) h.lb h.hN hin
  obtain ⟨hb1, hb2⟩ := h.hb
  obtain ⟨hz1, hz2⟩ := h.hz
  have hnz : n * z ≤ 16777216 := Nat.mul_le_mul (show n ≤ 4096 by omega) hz2
  go_enter Tryd.func29, Tryd.ntmps29
  go_wp2_with fail
  rw [Hw0.out]
  go_fit (blocks_any w0 v r s b z N bs vs last p n hV0 hn hin)
  rintro x w1 ⟨rfl, q1, rfl⟩
  go_wp2_with fail
  go_fit (clone_any (some ⟨r, p * z, none⟩) (n * z) (n * z) (segB bs p n z) _ hsl (by omega) ((hV0.seg p n).drewN q1))
  rintro x w2 ⟨u2, rfl, ho2, hb2⟩
  obtain ⟨A2, c2, rfl, _, hc2, hcm2, hr2, ha2⟩ := own_out ho2
  have hZ2 := (show Blk (w0.drewN q1) (g + 1) [.int .u8 0, .slice none 0 0] 49 from hZ).below hb2
  have hR2 := (show Blk (w0.drewN q1) (g + 1 + 1) [.int .u8 1, .slice none 0 0] 49 from hR).below hb2
  have hV2 := (hV0.drewN q1).below hb2
  have sz2 : w0.heap.size ≤ w2.heap.size := hb2.size
  have hb02 := (below_drewN hb0 q1).trans (hb2.mono hb0.size)
  have hRl := hR.lt
  have y0 := hZ2.cell (j := 0) rfl
  have y1 := hZ2.cell (j := 1) rfl
  have f0 := hZ2.frozen 0
  have f1 := hZ2.frozen 1
  have x0 := hR2.cell (j := 0) rfl
  have x1 := hR2.cell (j := 1) rfl
  have e0 := hR2.frozen 0
  have e1 := hR2.frozen 1
  go_wp2
  have hR3 := hR2.set 1 (.slice A2 (n * z) c2)
  have hZ3 := ((hZ2.apart (k := g + 1 + 1) (by omega) 1 (.slice A2 (n * z) c2)).set 0 (.int .u8 1)).set 1 (.slice A2 (n * z) c2)
  refine bodyPost_ret (results_cell rfl rfl hZ3 Tryd.underlying49 rfl (by kernel_rfl)) rfl ?_
  have uA : ∀ a, A2 = some a → g + 1 + 1 + 1 ≤ a.block := fun a ha => by
    have := (ha2 a ha).1
    simp at this; omega
  refine ⟨A2, c2, by rw [hsl]; rfl, ((hr2.upset (g := g + 1 + 1) uA (by omega)).upset (g := g + 1) uA (by omega)).upset (g := g + 1) uA (by omega), (fun a ha => by have := uA a ha; omega), ((hV2.far (by omega) (by omega) (by omega) 1 _).far (by omega) (by omega) (by omega) 0 _).far (by omega) (by omega) (by omega) 1 _, ?_⟩
  have hW := ((hb02.setCell (leBk (g := g + 1 + 1) (j := 1) (by omega)) (.slice A2 (n * z) c2)).setCell (leBk (g := g + 1) (j := 0) (by omega)) (.int .u8 1)).setCell (leBk (g := g + 1) (j := 1) (by omega)) (.slice A2 (n * z) c2)
  exact ⟨hW.size, hW.os, hW.tape, hW.output, fun k hk _ _ => hW.block k hk⟩

set_option maxHeartbeats 3200000 in
theorem done_flush (w : World) (v r s b z N : Nat) (bs : List UInt8) (vs : List Int) (last : Int) (p n : Nat) (D : Option Addr) (d dc : Nat) (O : Option Addr) (o oc : Nat) (num : Int) (h : VolIs w v r s b z N bs vs last) :
    Calls Tryd.prog 29 #[.pointer (some ⟨v, 0, none⟩), opv 4 p n D d dc O o oc, .int .i64 num] w (DoneIs v r s b z N 1 [] bs vs last w) := by
  obtain ⟨g, hg⟩ : ∃ g, w.heap.size = g := ⟨_, rfl⟩
  obtain ⟨w0, hw0⟩ : ∃ w0, ((w.alloc (.cells #[.int .u8 4, .int .i64 p, .int .i64 n, .slice D d dc, .slice O o oc] 38)).alloc (.cells #[.int .u8 0, .slice none 0 0] 49)).alloc (.cells #[.int .u8 1, .slice none 0 0] 49) = w0 := ⟨_, rfl⟩
  have hO : Blk w0 g [.int .u8 4, .int .i64 p, .int .i64 n, .slice D d dc, .slice O o oc] 38 := by rw [← hw0, ← hg]; exact ((Blk.new w [.int .u8 4, .int .i64 p, .int .i64 n, .slice D d dc, .slice O o oc] _).alloc _).alloc _
  have hZ : Blk w0 (g + 1) [.int .u8 0, .slice none 0 0] 49 := by
    rw [← hw0, ← hg]
    have := (Blk.new (w.alloc (.cells #[.int .u8 4, .int .i64 p, .int .i64 n, .slice D d dc, .slice O o oc] 38)) [.int .u8 0, .slice none 0 0] 49).alloc (.cells #[.int .u8 1, .slice none 0 0] 49)
    rwa [World.size_alloc] at this
  have hR : Blk w0 (g + 1 + 1) [.int .u8 1, .slice none 0 0] 49 := by
    rw [← hw0, ← hg]
    have := Blk.new ((w.alloc (.cells #[.int .u8 4, .int .i64 p, .int .i64 n, .slice D d dc, .slice O o oc] 38)).alloc (.cells #[.int .u8 0, .slice none 0 0] 49)) [.int .u8 1, .slice none 0 0] 49
    rwa [World.size_alloc, World.size_alloc] at this
  have hb0 : Below w.heap.size w w0 := by rw [← hw0]; exact (((Below.refl _ _).alloc (Nat.le_refl _) _).alloc (by simp) _).alloc (by simp; omega) _
  have hV0 := h.below hb0
  have Hw0 := hide hw0
  have vlt := h.blk.lt
  have rlt := h.row.lt
  have slt := h.ver.lt
  clear hw0
  have y0 := hZ.cell (j := 0) rfl
  have y1 := hZ.cell (j := 1) rfl
  have f0 := hZ.frozen 0
  have f1 := hZ.frozen 1
  have x0 := hR.cell (j := 0) rfl
  have x1 := hR.cell (j := 1) rfl
  have e0 := hR.frozen 0
  have e1 := hR.frozen 1
  have hRl := hR.lt
  go_enter Tryd.func29, Tryd.ntmps29
  go_wp2
  have hZf : Blk (((w.alloc (.cells #[.int .u8 4, .int .i64 p, .int .i64 n, .slice D d dc, .slice O o oc] 38)).alloc (.cells #[.int .u8 1, .slice none 0 0] 49)).alloc (.cells #[.int .u8 1, .slice none 0 0] 49)) (g + 1) [.int .u8 1, .slice none 0 0] 49 := by
    rw [← hg]
    have := (Blk.new (w.alloc (.cells #[.int .u8 4, .int .i64 p, .int .i64 n, .slice D d dc, .slice O o oc] 38)) [.int .u8 1, .slice none 0 0] 49).alloc (.cells #[.int .u8 1, .slice none 0 0] 49)
    rwa [World.size_alloc] at this
  have hbf : Below w.heap.size w (((w.alloc (.cells #[.int .u8 4, .int .i64 p, .int .i64 n, .slice D d dc, .slice O o oc] 38)).alloc (.cells #[.int .u8 1, .slice none 0 0] 49)).alloc (.cells #[.int .u8 1, .slice none 0 0] 49)) := (((Below.refl _ _).alloc (Nat.le_refl _) _).alloc (by simp) _).alloc (by simp; omega) _
  refine bodyPost_ret (results_cell rfl rfl hZf Tryd.underlying49 rfl (by kernel_rfl)) rfl ?_
  exact ⟨none, 0, rfl, Rd.nil, (fun a ha => by cases ha), h.below hbf, hbf.size, hbf.os, hbf.tape, hbf.output, fun k hk _ _ => hbf.block k hk⟩

set_option maxHeartbeats 3200000 in
theorem done_write (w : World) (v r s b z N : Nat) (bs : List UInt8) (vs : List Int) (last : Int) (p n : Nat) (D : Option Addr) (d dc : Nat) (O : Option Addr) (o oc : Nat) (num : Int) (h : VolIs w v r s b z N bs vs last) (ds : List UInt8) (hd : ds.length = d) (hD : Rd w D (bys ds)) (hdz : d = n * z) (hn : 1 ≤ n) (hin : p + n ≤ b) :
    Calls Tryd.prog 29 #[.pointer (some ⟨v, 0, none⟩), opv 2 p n D d dc O o oc, .int .i64 num] w (DoneIs v r s b z N 1 [] (splB bs (p * z) ds) (stampL vs p num n) last w) := by
  obtain ⟨g, hg⟩ : ∃ g, w.heap.size = g := ⟨_, rfl⟩
  obtain ⟨w0, hw0⟩ : ∃ w0, ((w.alloc (.cells #[.int .u8 2, .int .i64 p, .int .i64 n, .slice D d dc, .slice O o oc] 38)).alloc (.cells #[.int .u8 0, .slice none 0 0] 49)).alloc (.cells #[.int .u8 1, .slice none 0 0] 49) = w0 := ⟨_, rfl⟩
  have hO : Blk w0 g [.int .u8 2, .int .i64 p, .int .i64 n, .slice D d dc, .slice O o oc] 38 := by rw [← hw0, ← hg]; exact ((Blk.new w [.int .u8 2, .int .i64 p, .int .i64 n, .slice D d dc, .slice O o oc] _).alloc _).alloc _
  have hZ : Blk w0 (g + 1) [.int .u8 0, .slice none 0 0] 49 := by
    rw [← hw0, ← hg]
    have := (Blk.new (w.alloc (.cells #[.int .u8 2, .int .i64 p, .int .i64 n, .slice D d dc, .slice O o oc] 38)) [.int .u8 0, .slice none 0 0] 49).alloc (.cells #[.int .u8 1, .slice none 0 0] 49)
    rwa [World.size_alloc] at this
  have hR : Blk w0 (g + 1 + 1) [.int .u8 1, .slice none 0 0] 49 := by
    rw [← hw0, ← hg]
    have := Blk.new ((w.alloc (.cells #[.int .u8 2, .int .i64 p, .int .i64 n, .slice D d dc, .slice O o oc] 38)).alloc (.cells #[.int .u8 0, .slice none 0 0] 49)) [.int .u8 1, .slice none 0 0] 49
    rwa [World.size_alloc, World.size_alloc] at this
  have hb0 : Below w.heap.size w w0 := by rw [← hw0]; exact (((Below.refl _ _).alloc (Nat.le_refl _) _).alloc (by simp) _).alloc (by simp; omega) _
  have hV0 := h.below hb0
  have Hw0 := hide hw0
  have vlt := h.blk.lt
  have rlt := h.row.lt
  have slt := h.ver.lt
  clear hw0
  obtain ⟨hb1, hb2⟩ := h.hb
  obtain ⟨hz1, hz2⟩ := h.hz
  have hpn := mul_le hin h.hN
  rw [Nat.add_mul] at hpn
  have hD0 := hD.below hb0
  have Hd := hide hd
  have Hdz := hide hdz
  have k0 := hO.cell (j := 0) rfl
  have k1 := hO.cell (j := 1) rfl
  have k2 := hO.cell (j := 2) rfl
  have k3 := hO.cell (j := 3) rfl
  have k4 := hO.cell (j := 4) rfl
  clear hd hdz
  go_enter Tryd.func29, Tryd.ntmps29
  go_wp2_with fail
  rw [Hw0.out]
  go_region_with (first
    | (go_at_call 31; refine (blocks_any _ v r s b z N bs vs last p n (by exact hV0.drewN 1) hn hin).mono ?_; rintro x w1 ⟨rfl, q1, rfl⟩; have cp := fun ty => copy_row (w := w0.drewN (1 + q1)) (dc := dc) (hV0.drewN (1 + q1)) Hd.out hD0 Hdz.out hin ty))
  all_goals
    clear cp
    have hl := splB_length (bs := bs) (xs := ds) (off := p * z) (by rw [Hd.out, h.lb]; have := Hdz.out; omega)
    rw [h.lb] at hl
    have hV3 := (hV0.drewN (1 + q1)).setRow (splB bs (p * z) ds) hl
    have G3 : (w0.drewN (1 + q1)).grownBy _ (some r) := setRow_grown (cs := bys (splB bs (p * z) ds))
    have hO3 := blk_grown (show Blk (w0.drewN (1 + q1)) g _ _ from hO) G3 (by omega)
    have hZ3 := blk_grown (show Blk (w0.drewN (1 + q1)) (g + 1) _ _ from hZ) G3 (by omega)
    have hR3 := blk_grown (show Blk (w0.drewN (1 + q1)) (g + 1 + 1) _ _ from hR) G3 (by omega)
    obtain ⟨w3, hw3⟩ : ∃ w3, (w0.drewN (1 + q1)).setRow r (bys (splB bs (p * z) ds)).toArray = w3 := ⟨_, rfl⟩
    rw [hw3] at hV3 G3 hO3 hZ3 hR3
    rw [hw3]
    obtain ⟨bs', hbs'⟩ : ∃ x, splB bs (p * z) ds = x := ⟨_, rfl⟩
    rw [hbs'] at hV3
    have k1 := hO3.cell (j := 1) rfl
    have hRl := hR3.lt
    have gs3 := G3.size
    have HB := hide hbs'
    clear k0 k1 k2 k3 k4 hl hbs' hw3
    have k1 := hO3.cell (j := 1) rfl
    go_wp2_with fail
    go_fit (stamp_any w3 v r s b z N bs' vs last p n num hV3 hin)
    rintro x w4 ⟨rfl, hV4, G4⟩
    have hZ4 := blk_grown hZ3 G4 (by omega)
    have hR4 := blk_grown hR3 G4 (by omega)
    have gs4 := G4.size
    have y0 := hZ4.cell (j := 0) rfl
    have y1 := hZ4.cell (j := 1) rfl
    have f0 := hZ4.frozen 0
    have f1 := hZ4.frozen 1
    have x0 := hR4.cell (j := 0) rfl
    have x1 := hR4.cell (j := 1) rfl
    go_wp2
    have hZ5 := (hZ4.set 0 (.int .u8 1)).set 1 (.slice none 0 0)
    refine bodyPost_ret (results_cell rfl rfl hZ5 Tryd.underlying49 rfl (by kernel_rfl)) rfl ?_
    rw [HB.out]
    refine ⟨none, 0, rfl, Rd.nil, (fun a ha => by cases ha), (hV4.far (by omega) (by omega) (by omega) 0 _).far (by omega) (by omega) (by omega) 1 _, ?_⟩
    refine ⟨?_, G4.os.trans (G3.os.trans hb0.os), G4.tape.trans (G3.tape.trans hb0.tape), G4.output.trans (G3.output.trans hb0.output), fun q hq hr' hs' => ?_⟩
    · have := hb0.size
      simp only [size_setCell']
      exact Nat.le_trans this (Nat.le_trans gs3 gs4)
    · rw [heap_setCell_other _ ⟨g + 1, 1, none⟩ q _ (by show q ≠ g + 1; omega), heap_setCell_other _ ⟨g + 1, 0, none⟩ q _ (by show q ≠ g + 1; omega)]
      rw [G4.block q (by have := hb0.size; omega) (by intro e; injection e with e; exact hs' e), G3.block q (by have := hb0.size; show q < w0.heap.size; omega) (by intro e; injection e with e; exact hr' e)]
      exact hb0.block q hq

set_option maxHeartbeats 3200000 in
theorem done_trim (w : World) (v r s b z N : Nat) (bs : List UInt8) (vs : List Int) (last : Int) (p n : Nat) (D : Option Addr) (d dc : Nat) (O : Option Addr) (o oc : Nat) (num : Int) (h : VolIs w v r s b z N bs vs last) (hn : 1 ≤ n) (hin : p + n ≤ b) :
    Calls Tryd.prog 29 #[.pointer (some ⟨v, 0, none⟩), opv 3 p n D d dc O o oc, .int .i64 num] w (DoneIs v r s b z N 1 [] (splB bs (p * z) (List.replicate (n * z) 0)) (stampL vs p num n) last w) := by
  obtain ⟨g, hg⟩ : ∃ g, w.heap.size = g := ⟨_, rfl⟩
  obtain ⟨w0, hw0⟩ : ∃ w0, ((w.alloc (.cells #[.int .u8 3, .int .i64 p, .int .i64 n, .slice D d dc, .slice O o oc] 38)).alloc (.cells #[.int .u8 0, .slice none 0 0] 49)).alloc (.cells #[.int .u8 1, .slice none 0 0] 49) = w0 := ⟨_, rfl⟩
  have hO : Blk w0 g [.int .u8 3, .int .i64 p, .int .i64 n, .slice D d dc, .slice O o oc] 38 := by rw [← hw0, ← hg]; exact ((Blk.new w [.int .u8 3, .int .i64 p, .int .i64 n, .slice D d dc, .slice O o oc] _).alloc _).alloc _
  have hZ : Blk w0 (g + 1) [.int .u8 0, .slice none 0 0] 49 := by
    rw [← hw0, ← hg]
    have := (Blk.new (w.alloc (.cells #[.int .u8 3, .int .i64 p, .int .i64 n, .slice D d dc, .slice O o oc] 38)) [.int .u8 0, .slice none 0 0] 49).alloc (.cells #[.int .u8 1, .slice none 0 0] 49)
    rwa [World.size_alloc] at this
  have hR : Blk w0 (g + 1 + 1) [.int .u8 1, .slice none 0 0] 49 := by
    rw [← hw0, ← hg]
    have := Blk.new ((w.alloc (.cells #[.int .u8 3, .int .i64 p, .int .i64 n, .slice D d dc, .slice O o oc] 38)).alloc (.cells #[.int .u8 0, .slice none 0 0] 49)) [.int .u8 1, .slice none 0 0] 49
    rwa [World.size_alloc, World.size_alloc] at this
  have hb0 : Below w.heap.size w w0 := by rw [← hw0]; exact (((Below.refl _ _).alloc (Nat.le_refl _) _).alloc (by simp) _).alloc (by simp; omega) _
  have hV0 := h.below hb0
  have Hw0 := hide hw0
  have vlt := h.blk.lt
  have rlt := h.row.lt
  have slt := h.ver.lt
  clear hw0
  obtain ⟨hb1, hb2⟩ := h.hb
  obtain ⟨hz1, hz2⟩ := h.hz
  have hpn := mul_le hin h.hN
  rw [Nat.add_mul] at hpn
  have k0 := hO.cell (j := 0) rfl
  have k1 := hO.cell (j := 1) rfl
  have k2 := hO.cell (j := 2) rfl
  have k3 := hO.cell (j := 3) rfl
  have k4 := hO.cell (j := 4) rfl
  go_enter Tryd.func29, Tryd.ntmps29
  go_wp2_with fail
  rw [Hw0.out]
  go_fit (blocks_any w0 v r s b z N bs vs last p n hV0 hn hin)
  rintro x w1 ⟨rfl, q0, rfl⟩
  obtain ⟨q1, rfl⟩ : ∃ q1, q0 = q1 := ⟨_, rfl⟩
  have cl := fun ty => clear_row (w := w0.drewN q0) (c := n * z) (hV0.drewN q0) hin ty
  all_goals
    have hl := splB_length (bs := bs) (xs := List.replicate (n * z) 0) (off := p * z) (by rw [List.length_replicate, h.lb]; omega)
    rw [h.lb] at hl
    have hV3 := (hV0.drewN q0).setRow (splB bs (p * z) (List.replicate (n * z) 0)) hl
    have G3 : (w0.drewN q0).grownBy _ (some r) := setRow_grown (cs := bys (splB bs (p * z) (List.replicate (n * z) 0)))
    have hO3 := blk_grown (show Blk (w0.drewN q0) g _ _ from hO) G3 (by omega)
    have hZ3 := blk_grown (show Blk (w0.drewN q0) (g + 1) _ _ from hZ) G3 (by omega)
    have hR3 := blk_grown (show Blk (w0.drewN q0) (g + 1 + 1) _ _ from hR) G3 (by omega)
    have k5 := hO3.cell (j := 1) rfl
    clear k0 k1 k2 k3 k4
    go_wp2_with fail
    clear cl k5
    obtain ⟨w3, hw3⟩ : ∃ w3, (w0.drewN q0).setRow r (bys (splB bs (p * z) (List.replicate (n * z) 0))).toArray = w3 := ⟨_, rfl⟩
    rw [hw3] at hV3 G3 hO3 hZ3 hR3
    rw [hw3]
    obtain ⟨bs', hbs'⟩ : ∃ x, splB bs (p * z) (List.replicate (n * z) 0) = x := ⟨_, rfl⟩
    rw [hbs'] at hV3
    have hRl := hR3.lt
    have gs3 := G3.size
    have HB := hide hbs'
    clear hl hbs' hw3
    go_fit (stamp_any w3 v r s b z N bs' vs last p n num hV3 hin)
    rintro x w4 ⟨rfl, hV4, G4⟩
    have hZ4 := blk_grown hZ3 G4 (by omega)
    have hR4 := blk_grown hR3 G4 (by omega)
    have gs4 := G4.size
    have y0 := hZ4.cell (j := 0) rfl
    have y1 := hZ4.cell (j := 1) rfl
    have f0 := hZ4.frozen 0
    have f1 := hZ4.frozen 1
    have x0 := hR4.cell (j := 0) rfl
    have x1 := hR4.cell (j := 1) rfl
    go_wp2
    have hZ5 := (hZ4.set 0 (.int .u8 1)).set 1 (.slice none 0 0)
    refine bodyPost_ret (results_cell rfl rfl hZ5 Tryd.underlying49 rfl (by kernel_rfl)) rfl ?_
    rw [HB.out]
    refine ⟨none, 0, rfl, Rd.nil, (fun a ha => by cases ha), (hV4.far (by omega) (by omega) (by omega) 0 _).far (by omega) (by omega) (by omega) 1 _, ?_⟩
    refine ⟨?_, G4.os.trans (G3.os.trans hb0.os), G4.tape.trans (G3.tape.trans hb0.tape), G4.output.trans (G3.output.trans hb0.output), fun q hq hr' hs' => ?_⟩
    · have := hb0.size
      simp only [size_setCell']
      exact Nat.le_trans this (Nat.le_trans gs3 gs4)
    · rw [heap_setCell_other _ ⟨g + 1, 1, none⟩ q _ (by show q ≠ g + 1; omega), heap_setCell_other _ ⟨g + 1, 0, none⟩ q _ (by show q ≠ g + 1; omega)]
      rw [G4.block q (by have := hb0.size; omega) (by intro e; injection e with e; exact hs' e), G3.block q (by have := hb0.size; show q < w0.heap.size; omega) (by intro e; injection e with e; exact hr' e)]
      exact hb0.block q hq

theorem blocks_one (w : World) (v r s b z N : Nat) (bs : List UInt8) (vs : List Int) (last : Int) (i : Nat) (h : VolIs w v r s b z N bs vs last) (hin : i + 1 ≤ b) :
    Calls Tryd.prog 31 #[.pointer (some ⟨v, 0, none⟩), .int .i64 i, .int .i64 1] w fun e w' => e = .returned (.slice (some ⟨r, i * z, none⟩) z z) ∧ ∃ q, w' = w.drewN q := by
  have := blocks_any w v r s b z N bs vs last i 1 h (Nat.le_refl _) hin
  rw [Nat.one_mul] at this
  exact this
theorem stamp_one (w : World) (v r s b z N : Nat) (bs : List UInt8) (vs : List Int) (last : Int) (i0 : Nat) (num : Int) (h : VolIs w v r s b z N bs vs last) (hin : i0 + 1 ≤ b) :
    Calls Tryd.prog 44 #[.pointer (some ⟨v, 0, none⟩), .int .i64 i0, .int .i64 1, .int .i64 num] w fun e w' => e = .returned (.tuple #[]) ∧ VolIs w' v r s b z N bs (stampL vs i0 num 1) last ∧ w.grownBy w' (some s) :=
  stamp_any w v r s b z N bs vs last i0 1 num h hin
theorem copy_one {w : World} {v r s b z N : Nat} {bs : List UInt8} {vs : List Int} {last : Int} (h : VolIs w v r s b z N bs vs last) {p d dc : Nat} {D : Option Addr} {ds : List UInt8} (hd : ds.length = d) (hD : Rd w D (bys ds)) (hdz : d = z) (hin : p + 1 ≤ b) (ty : TypeId) :
    (Builtin.copy_ #[36, 36] ty #[.slice (some ⟨r, p * z, none⟩) z z, .slice D d dc]).run Tryd.prog w = .ok (goInt (d : Nat)) (w.setRow r (bys (splB bs (p * z) ds)).toArray) := by
  have := copy_row (n := 1) h hd hD (by omega) hin ty (dc := dc)
  rw [Nat.one_mul] at this
  exact this
theorem seg_one (bs : List UInt8) (p z : Nat) : segB bs p 1 z = (bs.drop (p * z)).take z := by unfold segB; rw [Nat.one_mul]
set_option maxHeartbeats 3200000 in
theorem done_swapno (w : World) (v r s b z N : Nat) (bs : List UInt8) (vs : List Int) (last : Int) (p n : Nat) (D : Option Addr) (d dc : Nat) (O : Option Addr) (o oc : Nat) (num : Int) (h : VolIs w v r s b z N bs vs last) (xs : List UInt8) (ho : xs.length = o) (hQ : Rd w O (bys xs)) (hin : p + 1 ≤ b) (HEQ : (segB bs p 1 z == xs) = false) :
    Calls Tryd.prog 29 #[.pointer (some ⟨v, 0, none⟩), opv 5 p n D d dc O o oc, .int .i64 num] w (DoneIs v r s b z N 4 (segB bs p 1 z) bs vs last w) := by
  obtain ⟨g, hg⟩ : ∃ g, w.heap.size = g := ⟨_, rfl⟩
  obtain ⟨w0, hw0⟩ : ∃ w0, ((w.alloc (.cells #[.int .u8 5, .int .i64 p, .int .i64 n, .slice D d dc, .slice O o oc] 38)).alloc (.cells #[.int .u8 0, .slice none 0 0] 49)).alloc (.cells #[.int .u8 1, .slice none 0 0] 49) = w0 := ⟨_, rfl⟩
  have hO : Blk w0 g [.int .u8 5, .int .i64 p, .int .i64 n, .slice D d dc, .slice O o oc] 38 := by rw [← hw0, ← hg]; exact ((Blk.new w [.int .u8 5, .int .i64 p, .int .i64 n, .slice D d dc, .slice O o oc] _).alloc _).alloc _
  have hZ : Blk w0 (g + 1) [.int .u8 0, .slice none 0 0] 49 := by
    rw [← hw0, ← hg]
    have := (Blk.new (w.alloc (.cells #[.int .u8 5, .int .i64 p, .int .i64 n, .slice D d dc, .slice O o oc] 38)) [.int .u8 0, .slice none 0 0] 49).alloc (.cells #[.int .u8 1, .slice none 0 0] 49)
    rwa [World.size_alloc] at this
  have hR : Blk w0 (g + 1 + 1) [.int .u8 1, .slice none 0 0] 49 := by
    rw [← hw0, ← hg]
    have := Blk.new ((w.alloc (.cells #[.int .u8 5, .int .i64 p, .int .i64 n, .slice D d dc, .slice O o oc] 38)).alloc (.cells #[.int .u8 0, .slice none 0 0] 49)) [.int .u8 1, .slice none 0 0] 49
    rwa [World.size_alloc, World.size_alloc] at this
  have hb0 : Below w.heap.size w w0 := by rw [← hw0]; exact (((Below.refl _ _).alloc (Nat.le_refl _) _).alloc (by simp) _).alloc (by simp; omega) _
  have hV0 := h.below hb0
  have Hw0 := hide hw0
  have vlt := h.blk.lt
  have rlt := h.row.lt
  have slt := h.ver.lt
  clear hw0
  obtain ⟨hb1, hb2⟩ := h.hb
  obtain ⟨hz1, hz2⟩ := h.hz
  have hsl := segB_length (bs := bs) (p := p) (n := 1) h.lb h.hN hin
  rw [Nat.one_mul] at hsl
  have hQ0 := hQ.below hb0
  have Ho := hide ho
  have hsg := hV0.seg p 1
  obtain ⟨hd0, hhd⟩ : ∃ x, segB bs p 1 z = x := ⟨_, rfl⟩
  rw [hhd] at hsl hsg HEQ
  have HH := hide hhd
  have Hsl := hide hsl
  have k0 := hO.cell (j := 0) rfl
  have k1 := hO.cell (j := 1) rfl
  have k2 := hO.cell (j := 2) rfl
  have k3 := hO.cell (j := 3) rfl
  have k4 := hO.cell (j := 4) rfl
  clear ho hhd hsl
  go_enter Tryd.func29, Tryd.ntmps29
  go_wp2_with fail
  rw [Hw0.out]
  go_fit (blocks_one w0 v r s b z N bs vs last p hV0 hin)
  rintro x w1 ⟨rfl, q0, rfl⟩
  have hk4 := (show Blk (w0.drewN q0) g _ _ from hO).cell (j := 4) rfl
  go_wp2_with fail
  go_fit (bequal_any (some ⟨r, p * z, none⟩) z z hd0 O o oc xs (w0.drewN q0) Hsl.out (hsg.drewN q0) Ho.out (hQ0.drewN q0))
  rw [HEQ]
  rintro x w1 ⟨rfl, rfl⟩
  go_wp2_with fail
  go_fit (clone_any (some ⟨r, p * z, none⟩) z z hd0 _ Hsl.out (by omega) (hsg.drewN q0))
  rintro x w2 ⟨u2, rfl, ho2, hb2⟩
  obtain ⟨A2, c2, rfl, _, hc2, hcm2, hr2, ha2⟩ := own_out ho2
  have hZ2 := (show Blk (w0.drewN q0) (g + 1) [.int .u8 0, .slice none 0 0] 49 from hZ).below hb2
  have hV2 := (hV0.drewN q0).below hb2
  have sz2 : w0.heap.size ≤ w2.heap.size := hb2.size
  have hb02 := (below_drewN hb0 q0).trans (hb2.mono hb0.size)
  have hRl := hR.lt
  clear k0 k1 k2 k3 k4 hk4
  have y0 := hZ2.cell (j := 0) rfl
  have y1 := hZ2.cell (j := 1) rfl
  have f0 := hZ2.frozen 0
  have f1 := hZ2.frozen 1
  go_wp2
  have hZ3 := (hZ2.set 0 (.int .u8 4)).set 1 (.slice A2 z c2)
  refine bodyPost_ret (results_cell rfl rfl hZ3 Tryd.underlying49 rfl (by kernel_rfl)) rfl ?_
  have uA : ∀ a, A2 = some a → g + 1 + 1 + 1 ≤ a.block := fun a ha => by
    have := (ha2 a ha).1
    simp at this; omega
  rw [HH.out]
  refine ⟨A2, c2, by rw [Hsl.out]; rfl, (hr2.upset (g := g + 1) uA (by omega)).upset (g := g + 1) uA (by omega), (fun a ha => by have := uA a ha; omega), (hV2.far (by omega) (by omega) (by omega) 0 _).far (by omega) (by omega) (by omega) 1 _, ?_⟩
  have hW := (hb02.setCell (leBk (g := g + 1) (j := 0) (by omega)) (.int .u8 4)).setCell (leBk (g := g + 1) (j := 1) (by omega)) (.slice A2 z c2)
  exact ⟨hW.size, hW.os, hW.tape, hW.output, fun k hk _ _ => hW.block k hk⟩

set_option maxHeartbeats 3200000 in
theorem done_swapyes (w : World) (v r s b z N : Nat) (bs : List UInt8) (vs : List Int) (last : Int) (p n : Nat) (D : Option Addr) (d dc : Nat) (O : Option Addr) (o oc : Nat) (num : Int) (h : VolIs w v r s b z N bs vs last) (ds xs : List UInt8) (hd : ds.length = d) (hD : Rd w D (bys ds)) (hdz : d = z) (ho : xs.length = o) (hQ : Rd w O (bys xs)) (hin : p + 1 ≤ b) (HEQ : (segB bs p 1 z == xs) = true) :
    Calls Tryd.prog 29 #[.pointer (some ⟨v, 0, none⟩), opv 5 p n D d dc O o oc, .int .i64 num] w (DoneIs v r s b z N 1 [] (splB bs (p * z) ds) (stampL vs p num 1) last w) := by
  obtain ⟨g, hg⟩ : ∃ g, w.heap.size = g := ⟨_, rfl⟩
  obtain ⟨w0, hw0⟩ : ∃ w0, ((w.alloc (.cells #[.int .u8 5, .int .i64 p, .int .i64 n, .slice D d dc, .slice O o oc] 38)).alloc (.cells #[.int .u8 0, .slice none 0 0] 49)).alloc (.cells #[.int .u8 1, .slice none 0 0] 49) = w0 := ⟨_, rfl⟩
  have hO : Blk w0 g [.int .u8 5, .int .i64 p, .int .i64 n, .slice D d dc, .slice O o oc] 38 := by rw [← hw0, ← hg]; exact ((Blk.new w [.int .u8 5, .int .i64 p, .int .i64 n, .slice D d dc, .slice O o oc] _).alloc _).alloc _
  have hZ : Blk w0 (g + 1) [.int .u8 0, .slice none 0 0] 49 := by
    rw [← hw0, ← hg]
    have := (Blk.new (w.alloc (.cells #[.int .u8 5, .int .i64 p, .int .i64 n, .slice D d dc, .slice O o oc] 38)) [.int .u8 0, .slice none 0 0] 49).alloc (.cells #[.int .u8 1, .slice none 0 0] 49)
    rwa [World.size_alloc] at this
  have hR : Blk w0 (g + 1 + 1) [.int .u8 1, .slice none 0 0] 49 := by
    rw [← hw0, ← hg]
    have := Blk.new ((w.alloc (.cells #[.int .u8 5, .int .i64 p, .int .i64 n, .slice D d dc, .slice O o oc] 38)).alloc (.cells #[.int .u8 0, .slice none 0 0] 49)) [.int .u8 1, .slice none 0 0] 49
    rwa [World.size_alloc, World.size_alloc] at this
  have hb0 : Below w.heap.size w w0 := by rw [← hw0]; exact (((Below.refl _ _).alloc (Nat.le_refl _) _).alloc (by simp) _).alloc (by simp; omega) _
  have hV0 := h.below hb0
  have Hw0 := hide hw0
  have vlt := h.blk.lt
  have rlt := h.row.lt
  have slt := h.ver.lt
  clear hw0
  obtain ⟨hb1, hb2⟩ := h.hb
  obtain ⟨hz1, hz2⟩ := h.hz
  have hsl := segB_length (bs := bs) (p := p) (n := 1) h.lb h.hN hin
  rw [Nat.one_mul] at hsl
  have hQ0 := hQ.below hb0
  have Ho := hide ho
  have Hd := hide hd
  have Hdz := hide hdz
  have hD0 := hD.below hb0
  have hsg := hV0.seg p 1
  obtain ⟨hd0, hhd⟩ : ∃ x, segB bs p 1 z = x := ⟨_, rfl⟩
  rw [hhd] at hsl hsg HEQ
  have HH := hide hhd
  have Hsl := hide hsl
  have k0 := hO.cell (j := 0) rfl
  have k1 := hO.cell (j := 1) rfl
  have k2 := hO.cell (j := 2) rfl
  have k3 := hO.cell (j := 3) rfl
  have k4 := hO.cell (j := 4) rfl
  clear ho hhd hsl hd hdz
  go_enter Tryd.func29, Tryd.ntmps29
  go_wp2_with fail
  rw [Hw0.out]
  go_fit (blocks_one w0 v r s b z N bs vs last p hV0 hin)
  rintro x w1 ⟨rfl, q0, rfl⟩
  go_wp2_with fail
  go_fit (bequal_any (some ⟨r, p * z, none⟩) z z hd0 O o oc xs (w0.drewN q0) Hsl.out (hsg.drewN q0) Ho.out (hQ0.drewN q0))
  rw [HEQ]
  rintro x w1 ⟨rfl, rfl⟩
  go_wp2_with fail
  go_region_with (first
    | (go_at_call 31; refine (blocks_one _ v r s b z N bs vs last p (by first | exact hV0.drewN (q0 + 1) | exact hV0.drewN (1 + q0)) hin).mono ?_; rintro x w1 ⟨rfl, q1, rfl⟩; have cp := fun ty => copy_one (w := w0.drewN (q0 + 1 + q1)) (dc := dc) (hV0.drewN (q0 + 1 + q1)) Hd.out hD0 Hdz.out hin ty))
  all_goals
    clear cp
    have hpn := mul_le hin h.hN
    rw [Nat.add_mul] at hpn
    have hl := splB_length (bs := bs) (xs := ds) (off := p * z) (by rw [Hd.out, h.lb]; have := Hdz.out; omega)
    rw [h.lb] at hl
    have hV3 := (hV0.drewN (q0 + 1 + q1)).setRow (splB bs (p * z) ds) hl
    have G3 : (w0.drewN (q0 + 1 + q1)).grownBy _ (some r) := setRow_grown (cs := bys (splB bs (p * z) ds))
    have hO3 := blk_grown (show Blk (w0.drewN (q0 + 1 + q1)) g _ _ from hO) G3 (by omega)
    have hZ3 := blk_grown (show Blk (w0.drewN (q0 + 1 + q1)) (g + 1) _ _ from hZ) G3 (by omega)
    have hR3 := blk_grown (show Blk (w0.drewN (q0 + 1 + q1)) (g + 1 + 1) _ _ from hR) G3 (by omega)
    obtain ⟨w3, hw3⟩ : ∃ w3, (w0.drewN (q0 + 1 + q1)).setRow r (bys (splB bs (p * z) ds)).toArray = w3 := ⟨_, rfl⟩
    rw [hw3] at hV3 G3 hO3 hZ3 hR3
    rw [hw3]
    obtain ⟨bs', hbs'⟩ : ∃ x, splB bs (p * z) ds = x := ⟨_, rfl⟩
    rw [hbs'] at hV3
    have k1 := hO3.cell (j := 1) rfl
    have hRl := hR3.lt
    have gs3 := G3.size
    have HB := hide hbs'
    clear k0 k1 k2 k3 k4 hl hbs' hw3 hpn
    have k1 := hO3.cell (j := 1) rfl
    go_wp2_with fail
    go_fit (stamp_one w3 v r s b z N bs' vs last p num hV3 hin)
    rintro x w4 ⟨rfl, hV4, G4⟩
    have hZ4 := blk_grown hZ3 G4 (by omega)
    have hR4 := blk_grown hR3 G4 (by omega)
    have gs4 := G4.size
    have y0 := hZ4.cell (j := 0) rfl
    have y1 := hZ4.cell (j := 1) rfl
    have f0 := hZ4.frozen 0
    have f1 := hZ4.frozen 1
    have x0 := hR4.cell (j := 0) rfl
    have x1 := hR4.cell (j := 1) rfl
    go_wp2
    have hZ5 := (hZ4.set 0 (.int .u8 1)).set 1 (.slice none 0 0)
    refine bodyPost_ret (results_cell rfl rfl hZ5 Tryd.underlying49 rfl (by kernel_rfl)) rfl ?_
    rw [HB.out]
    refine ⟨none, 0, rfl, Rd.nil, (fun a ha => by cases ha), (hV4.far (by omega) (by omega) (by omega) 0 _).far (by omega) (by omega) (by omega) 1 _, ?_⟩
    refine ⟨?_, G4.os.trans (G3.os.trans hb0.os), G4.tape.trans (G3.tape.trans hb0.tape), G4.output.trans (G3.output.trans hb0.output), fun q hq hr' hs' => ?_⟩
    · have := hb0.size
      simp only [size_setCell']
      exact Nat.le_trans this (Nat.le_trans gs3 gs4)
    · rw [heap_setCell_other _ ⟨g + 1, 1, none⟩ q _ (by show q ≠ g + 1; omega), heap_setCell_other _ ⟨g + 1, 0, none⟩ q _ (by show q ≠ g + 1; omega)]
      rw [G4.block q (by have := hb0.size; omega) (by intro e; injection e with e; exact hs' e), G3.block q (by have := hb0.size; show q < w0.heap.size; omega) (by intro e; injection e with e; exact hr' e)]
      exact hb0.block q hq
end Go.Proofs.YtjilkaciopiabaaDoor
