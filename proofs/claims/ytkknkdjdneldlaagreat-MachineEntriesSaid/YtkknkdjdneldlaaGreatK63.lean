/- Texts joined (shake.py). -/
import Derived.Deep.QuietTactic
import Derived.BigQuiet
import Derived.WalkSpells
import Derived.Outline
import Derived.Deep.DeepFit
import Derived.Deep.RegionWith
import Derived.Test.YtkknkdjdneldlaaGreatK61
import Derived.Test.YtkknkdjdneldlaaGreatK62
namespace Go.Proofs.YtkknkdjdneldlaaGreat
set_option maxRecDepth 20000
open Go.RowKit Go.Px
set_option linter.unusedVariables false

/-- A volume of b blocks of z bytes (N in all) at block v of memory: its row at block r, its versions at block s. -/
structure VolIs (w : World) (v r s b z N : Nat) (bs : List UInt8) (vs : List Int) (last : Int) : Prop where
  blk : Blk w v [.int .i64 b, .int .i64 z, .slice (some ⟨r, 0, none⟩) N N, .slice (some ⟨s, 0, none⟩) b b, .int .i64 last] 163
  row : Blk w r (bys bs) 5
  ver : Blk w s (ints vs) 3
  lb : bs.length = N
  lv : vs.length = b
  hN : b * z = N
  vr : v ≠ r
  vs_ : v ≠ s
  rs : r ≠ s
  hb : 1 ≤ b ∧ b ≤ 4096
  hz : 1 ≤ z ∧ z ≤ 4096
section
variable {w w' : World} {v r s b z N : Nat} {bs : List UInt8} {vs : List Int} {last : Int}
theorem VolIs.below (h : VolIs w v r s b z N bs vs last) (hb : Below w.heap.size w w') : VolIs w' v r s b z N bs vs last :=
  { h with blk := h.blk.below hb, row := h.row.below hb, ver := h.ver.below hb }
theorem VolIs.drewN (h : VolIs w v r s b z N bs vs last) (q : Nat) : VolIs (w.drewN q) v r s b z N bs vs last := { h with blk := h.blk, row := h.row, ver := h.ver }
end
@[go_sem] theorem neqnil_bytes (w : World) (A : Option Addr) (n c n' c' : Nat) : (binOp .neq 38 (.slice A n c) (.slice none n' c')).run Tryz.prog w = .ok (.bool (!A.isNone)) w := run_neq_slice_nil_any w _ _ A n c n' c' Tryz.underlying38
theorem made_any (w : World) (v r s b z N : Nat) (bs : List UInt8) (vs : List Int) (last : Int) (h : VolIs w v r s b z N bs vs last) :
    Calls Tryz.prog 110 #[.pointer (some ⟨v, 0, none⟩)] w fun e w' => e = .returned (.bool true) ∧ w = w' := by
  have x2 := h.blk.cell (j := 2) rfl
  go_enter Tryz.func110, Tryz.ntmps110
  go_wp2
  go_ret
  exact ⟨rfl, rfl⟩
theorem cutA_in {r F G : Nat} (h : F < G) : cutA (some ⟨r, 0, none⟩) G F 1 = some ⟨r, F, none⟩ := by
  unfold cutA
  rw [if_neg (by omega), Option.map_some, Nat.mul_one, addr_add0]
theorem mul_le {i b z N : Nat} (h : i ≤ b) (hN : b * z = N) : i * z ≤ N := by rw [← hN]; exact Nat.mul_le_mul_right _ h
set_option maxHeartbeats 1600000 in
theorem blocks_any (w : World) (v r s b z N : Nat) (bs : List UInt8) (vs : List Int) (last : Int) (i n : Nat) (h : VolIs w v r s b z N bs vs last) (hn : 1 ≤ n) (hin : i + n ≤ b) :
    Calls Tryz.prog 112 #[.pointer (some ⟨v, 0, none⟩), .int .i64 i, .int .i64 n] w fun e w' => e = .returned (.slice (some ⟨r, i * z, none⟩) (n * z) (n * z)) ∧ ∃ q, w' = w.drewN q := by
  have x0 := h.blk.cell (j := 0) rfl
  have x1 := h.blk.cell (j := 1) rfl
  have x2 := h.blk.cell (j := 2) rfl
  obtain ⟨hb1, hb2⟩ := h.hb
  obtain ⟨hz1, hz2⟩ := h.hz
  have hNb : N ≤ 16777216 := by rw [← h.hN]; exact Nat.mul_le_mul hb2 hz2
  obtain ⟨F, hF⟩ : ∃ F, i * z = F := ⟨_, rfl⟩
  obtain ⟨G, hG⟩ : ∃ G, (i + n) * z = G := ⟨_, rfl⟩
  have hFG : F + n * z = G := by rw [← hF, ← hG, Nat.add_mul]
  have hGN : G ≤ N := by rw [← hG]; exact mul_le hin h.hN
  have hnz : 1 ≤ n * z := Nat.mul_pos hn hz1
  have hFI : (i : Int) * (z : Int) = (F : Int) := by rw [← hF]; simp
  have hGI : ((i : Int) + (n : Int)) * (z : Int) = (G : Int) := by rw [← hG]; simp
  have hFlt : F < G := by omega
  have hFle : F ≤ N := by omega
  have HFG := hide hFG
  have hF0 := hide hF
  clear hF hG hFG hnz
  go_enter Tryz.func112, Tryz.ntmps112
  go_wp2
  go_quiet (fail)
  go_wp2
  go_ret
  refine ⟨?_, _, rfl⟩
  rw [hF0.out, ← show G - F = n * z by have := HFG.out; omega, ← cutA_in hFlt]
  rfl
theorem gset {a b : World} {g : Nat} (h : a.grownBy b (some g)) (j : Nat) (u : Value) : a.grownBy (b.setCell ⟨g, j, none⟩ u) (some g) :=
  grown_chain h ⟨rfl, rfl, rfl, by simp, fun k hk hne => heap_setCell_other b ⟨g, j, none⟩ k u (by intro e; exact hne (by rw [e]))⟩ (.inl rfl)
def stampL (vs : List Int) (i : Nat) (num : Int) : Nat → List Int
  | 0 => vs
  | k + 1 => (stampL vs i num k).set (i + k) num
theorem stampL_length (vs : List Int) (i : Nat) (num : Int) : ∀ k, (stampL vs i num k).length = vs.length
  | 0 => rfl
  | k + 1 => by simp [stampL, stampL_length vs i num k]
theorem ints_set (l : List Int) (j : Nat) (x : Int) : ints (l.set j x) = (ints l).set j (.int .i64 x) := by simp [ints, List.map_set]
theorem VolIs.setVer {w : World} {v r s b z N : Nat} {bs : List UInt8} {vs : List Int} {last : Int} (h : VolIs w v r s b z N bs vs last) (j : Nat) (x : Int) : VolIs (w.setCell ⟨s, j, none⟩ (.int .i64 x)) v r s b z N bs (vs.set j x) last :=
  { h with blk := h.blk.apart h.vs_ j _, row := h.row.apart h.rs j _, ver := by rw [ints_set]; exact h.ver.set j _, lv := by simp [h.lv] }
set_option maxHeartbeats 3200000 in
theorem stamp_any (w : World) (v r s b z N : Nat) (bs : List UInt8) (vs : List Int) (last : Int) (i0 n : Nat) (num : Int) (h : VolIs w v r s b z N bs vs last) (hin : i0 + n ≤ b) :
    Calls Tryz.prog 163 #[.pointer (some ⟨v, 0, none⟩), .int .i64 i0, .int .i64 n, .int .i64 num] w fun e w' => e = .returned (.tuple #[]) ∧ VolIs w' v r s b z N bs (stampL vs i0 num n) last ∧ w.grownBy w' (some s) := by
  obtain ⟨hb1, hb2⟩ := h.hb
  go_enter Tryz.func163, Tryz.ntmps163
  go_wp2
  go_loopw [10] (fun i wr => ∃ (k : Nat), k ≤ n ∧ i = .int .i64 k ∧ VolIs wr v r s b z N bs (stampL vs i0 num k) last ∧ w.grownBy wr (some s)) (fun i _ => n - (intOf i).toNat)
  case atStart => exact ⟨0, by omega, rfl, h, grown_refl _ _⟩
  case round =>
    obtain ⟨k, hk, rfl, hV, hG⟩ := hrel
    have x3 := hV.blk.cell (j := 3) rfl
    by_cases hlt : k < n
    · have hlv : i0 + k < (ints (stampL vs i0 num k)).length := by rw [ints_length, stampL_length, h.lv]; omega
      have y0 := hV.ver.cell (List.getElem?_eq_getElem hlv)
      have z0 := hV.ver.frozen (i0 + k)
      have hlb : i0 + k < b := by omega
      go_wp2
      go_roundw
      case rel => exact ⟨k + 1, by omega, by go_num, hV.setVer (i0 + k) num, gset hG _ _⟩
      case measure => simp [intOf]; omega
    · obtain rfl : k = n := by omega
      go_wp2
      go_end0
      exact ⟨rfl, hV, hG⟩
end Go.Proofs.YtkknkdjdneldlaaGreat
namespace Go.Proofs.YtkknkdjdneldlaaGreat
set_option maxRecDepth 20000
open Go.RowKit Go.Px
set_option linter.unusedVariables false
theorem VolIs.far {w : World} {v r s b z N g : Nat} {bs : List UInt8} {vs : List Int} {last : Int} (h : VolIs w v r s b z N bs vs last) (hv : v ≠ g) (hr : r ≠ g) (hs : s ≠ g) (j : Nat) (u : Value) : VolIs (w.setCell ⟨g, j, none⟩ u) v r s b z N bs vs last :=
  { h with blk := h.blk.apart hv j u, row := h.row.apart hr j u, ver := h.ver.apart hs j u }
theorem size_setCell' (w : World) (a : Addr) (u : Value) : (w.setCell a u).heap.size = w.heap.size := by simp
def segB (bs : List UInt8) (p n z : Nat) : List UInt8 := (bs.drop (p * z)).take (n * z)
theorem segB_length {bs : List UInt8} {p n z b N : Nat} (hb : bs.length = N) (hN : b * z = N) (h : p + n ≤ b) : (segB bs p n z).length = n * z := by
  have := mul_le h hN
  rw [Nat.add_mul] at this
  unfold segB
  rw [List.length_take, List.length_drop, hb]; omega
def splB (bs : List UInt8) (off : Nat) (xs : List UInt8) : List UInt8 := bs.take off ++ xs ++ bs.drop (off + xs.length)
theorem bys_splB (bs : List UInt8) (off : Nat) (xs : List UInt8) : bys (splB bs off xs) = spl (bys bs) off (bys xs) := by
  unfold splB spl; simp [bys]
theorem splB_length {bs xs : List UInt8} {off : Nat} (h : off + xs.length ≤ bs.length) : (splB bs off xs).length = bs.length := by
  unfold splB; simp only [List.length_append, List.length_take, List.length_drop]; omega
theorem VolIs.seg {w : World} {v r s b z N : Nat} {bs : List UInt8} {vs : List Int} {last : Int} (h : VolIs w v r s b z N bs vs last) (p n : Nat) : Rd w (some ⟨r, p * z, none⟩) (bys (segB bs p n z)) := by
  refine Rd.of_some fun j u hu => ?_
  unfold segB at hu
  rw [bys_take, bys_drop, List.getElem?_take] at hu
  split at hu
  · rw [List.getElem?_drop] at hu
    have := h.row.cell hu
    rwa [show (⟨r, p * z, none⟩ : Addr).add j = ⟨r, p * z + j, none⟩ by unfold Addr.add; split <;> simp_all]
  · cases hu
theorem VolIs.setRow {w : World} {v r s b z N : Nat} {bs : List UInt8} {vs : List Int} {last : Int} (h : VolIs w v r s b z N bs vs last) (bs' : List UInt8) (hl : bs'.length = N) : VolIs (w.setRow r (bys bs').toArray) v r s b z N bs' vs last :=
  { h with blk := h.blk.apartAll h.vr _, row := h.row.setAll _, ver := h.ver.apartAll (Ne.symm h.rs) _, lb := hl }
theorem VolIs.drew {w : World} {v r s b z N : Nat} {bs : List UInt8} {vs : List Int} {last : Int} (h : VolIs w v r s b z N bs vs last) : VolIs w.drew v r s b z N bs vs last := { h with blk := h.blk, row := h.row, ver := h.ver }
theorem copy_row {w : World} {v r s b z N : Nat} {bs : List UInt8} {vs : List Int} {last : Int} (h : VolIs w v r s b z N bs vs last) {p n d dc : Nat} {D : Option Addr} {ds : List UInt8} (hd : ds.length = d) (hD : Rd w D (bys ds)) (hdz : d = n * z) (hin : p + n ≤ b) (ty : TypeId) :
    (Builtin.copy_ #[38, 38] ty #[.slice (some ⟨r, p * z, none⟩) (n * z) (n * z), .slice D d dc]).run Tryz.prog w = .ok (goInt (d : Nat)) (w.setRow r (bys (splB bs (p * z) ds)).toArray) := by
  have hpn := mul_le hin h.hN
  rw [Nat.add_mul] at hpn
  have := run_copyB (P := Tryz.prog) (w := w) (dT := 38) (sT := 38) (ty := ty) (dLen := n * z) (dCap := n * z) (off := p * z) (m := d) (c := dc) (A := D) (ys := bys ds) h.row tBytes (by rw [bys_length, hd]) hD (bys_one _) (by rw [bys_length, h.lb]; omega)
  rw [this, List.take_of_length_le (by rw [bys_length]; omega), ← bys_splB, show min d (n * z) = d by omega]
theorem clear_row {w : World} {v r s b z N : Nat} {bs : List UInt8} {vs : List Int} {last : Int} (h : VolIs w v r s b z N bs vs last) {p n c : Nat} (hin : p + n ≤ b) (ty : TypeId) :
    (Builtin.clear_ #[38] ty #[.slice (some ⟨r, p * z, none⟩) (n * z) c]).run Tryz.prog w = .ok (.tuple #[]) (w.setRow r (bys (splB bs (p * z) (List.replicate (n * z) 0))).toArray) := by
  have hpn := mul_le hin h.hN
  rw [Nat.add_mul] at hpn
  have := run_clearB (P := Tryz.prog) (w := w) (dT := 38) (ty := ty) (off := p * z) (n := n * z) (c := c) (zv := .int .u8 0) h.row Tryz.underlying38 (by kernel_rfl) rfl rfl (by rw [bys_length, h.lb]; omega)
  rw [this, bys_splB]
  congr 4
  simp [bys]
theorem setRow_grown {w : World} {r : Nat} {cs : List Value} : w.grownBy (w.setRow r cs.toArray) (some r) :=
  ⟨rfl, rfl, rfl, by simp [World.setRow], fun k _ hne => heap_setRow_other w r k _ (by intro e; exact hne (by rw [e]))⟩
theorem blk_grown {w w' : World} {g b : Nat} {vs : List Value} {T : TypeId} (h : Blk w g vs T) (k : w.grownBy w' (some b)) (hne : g ≠ b) : Blk w' g vs T :=
  (k.block g h.lt (by intro e; injection e with e; exact hne e)).trans h
/-- What was done: the result's code and data, the volume behind it, all else unturned. -/
def DoneIs (v r s b z N : Nat) (code : Nat) (data : List UInt8) (bs' : List UInt8) (vs' : List Int) (last : Int) (w : World) (e : Ending) (w' : World) : Prop :=
  ∃ A c, e = .returned (resv code A data.length c) ∧ (Rd w' A (bys data) ∧ data.length ≤ c ∧ c ≤ 9223372036854775807) ∧ (∀ a, A = some a → w.heap.size ≤ a.block) ∧ VolIs w' v r s b z N bs' vs' last ∧ w.heap.size ≤ w'.heap.size ∧ w'.os = w.os ∧ w'.tape = w.tape ∧ w'.output = w.output ∧ ∀ k, k < w.heap.size → k ≠ r → k ≠ s → w'.heap[k]? = w.heap[k]?

set_option maxHeartbeats 3200000 in
theorem done_read (w : World) (v r s b z N : Nat) (bs : List UInt8) (vs : List Int) (last : Int) (p n : Nat) (D : Option Addr) (d dc : Nat) (O : Option Addr) (o oc : Nat) (num : Int) (h : VolIs w v r s b z N bs vs last) (hn : 1 ≤ n) (hin : p + n ≤ b) :
    Calls Tryz.prog 148 #[.pointer (some ⟨v, 0, none⟩), opv 1 p n D d dc O o oc, .int .i64 num] w (DoneIs v r s b z N 1 (segB bs p n z) bs vs last w) := by
  obtain ⟨g, hg⟩ : ∃ g, w.heap.size = g := ⟨_, rfl⟩
  obtain ⟨w0, hw0⟩ : ∃ w0, ((w.alloc (.cells #[.int .u8 1, .int .i64 p, .int .i64 n, .slice D d dc, .slice O o oc] 47)).alloc (.cells #[.int .u8 0, .slice none 0 0] 40)).alloc (.cells #[.int .u8 1, .slice none 0 0] 40) = w0 := ⟨_, rfl⟩
  have hO : Blk w0 g [.int .u8 1, .int .i64 p, .int .i64 n, .slice D d dc, .slice O o oc] 47 := by rw [← hw0, ← hg]; exact ((Blk.new w [.int .u8 1, .int .i64 p, .int .i64 n, .slice D d dc, .slice O o oc] _).alloc _).alloc _
  have hZ : Blk w0 (g + 1) [.int .u8 0, .slice none 0 0] 40 := by
    rw [← hw0, ← hg]
    have := (Blk.new (w.alloc (.cells #[.int .u8 1, .int .i64 p, .int .i64 n, .slice D d dc, .slice O o oc] 47)) [.int .u8 0, .slice none 0 0] 40).alloc (.cells #[.int .u8 1, .slice none 0 0] 40)
    rwa [World.size_alloc] at this
  have hR : Blk w0 (g + 1 + 1) [.int .u8 1, .slice none 0 0] 40 := by
    rw [← hw0, ← hg]
    have := Blk.new ((w.alloc (.cells #[.int .u8 1, .int .i64 p, .int .i64 n, .slice D d dc, .slice O o oc] 47)).alloc (.cells #[.int .u8 0, .slice none 0 0] 40)) [.int .u8 1, .slice none 0 0] 40
    rwa [World.size_alloc, World.size_alloc] at this
  have hb0 : Below w.heap.size w w0 := by rw [← hw0]; exact (((Below.refl _ _).alloc (Nat.le_refl _) _).alloc (by simp) _).alloc (by simp; omega) _
  have hV0 := h.below hb0
  have Hw0 := hide hw0
  have vlt := h.blk.lt
  have rlt := h.row.lt
  have slt := h.ver.lt
  clear hw0
  have hsl := segB_length (bs := bs) h.lb h.hN hin
  obtain ⟨hb1, hb2⟩ := h.hb
  obtain ⟨hz1, hz2⟩ := h.hz
  have hnz : n * z ≤ 16777216 := Nat.mul_le_mul (show n ≤ 4096 by omega) hz2
  go_enter Tryz.func148, Tryz.ntmps148
  go_wp2_with fail
  rw [Hw0.out]
  go_fit (blocks_any w0 v r s b z N bs vs last p n hV0 hn hin)
  rintro x w1 ⟨rfl, q1, rfl⟩
  go_wp2_with fail
  go_fit (clone_any (some ⟨r, p * z, none⟩) (n * z) (n * z) (segB bs p n z) _ hsl (by omega) ((hV0.seg p n).drewN q1))
  rintro x w2 ⟨u2, rfl, ho2, hb2⟩
  obtain ⟨A2, c2, rfl, _, hc2, hcm2, hr2, ha2⟩ := own_out ho2
  have hZ2 := (show Blk (w0.drewN q1) (g + 1) [.int .u8 0, .slice none 0 0] 40 from hZ).below hb2
  have hR2 := (show Blk (w0.drewN q1) (g + 1 + 1) [.int .u8 1, .slice none 0 0] 40 from hR).below hb2
  have hV2 := (hV0.drewN q1).below hb2
  have sz2 : w0.heap.size ≤ w2.heap.size := hb2.size
  have hb02 := (below_drewN hb0 q1).trans (hb2.mono hb0.size)
  have hRl := hR.lt
  have y0 := hZ2.cell (j := 0) rfl
  have y1 := hZ2.cell (j := 1) rfl
  have f0 := hZ2.frozen 0
  have f1 := hZ2.frozen 1
  have x0 := hR2.cell (j := 0) rfl
  have x1 := hR2.cell (j := 1) rfl
  have e0 := hR2.frozen 0
  have e1 := hR2.frozen 1
  go_wp2
  have hR3 := hR2.set 1 (.slice A2 (n * z) c2)
  have hZ3 := ((hZ2.apart (k := g + 1 + 1) (by omega) 1 (.slice A2 (n * z) c2)).set 0 (.int .u8 1)).set 1 (.slice A2 (n * z) c2)
  refine bodyPost_ret (results_cell rfl rfl hZ3 Tryz.underlying40 rfl (by kernel_rfl)) rfl ?_
  have uA : ∀ a, A2 = some a → g + 1 + 1 + 1 ≤ a.block := fun a ha => by
    have := (ha2 a ha).1
    simp at this; omega
  refine ⟨A2, c2, by rw [hsl]; rfl, ⟨((hr2.upset (g := g + 1 + 1) uA (by omega)).upset (g := g + 1) uA (by omega)).upset (g := g + 1) uA (by omega), by rw [hsl]; exact hc2, by unfold maxLen at hcm2; omega⟩, (fun a ha => by have := uA a ha; omega), ((hV2.far (by omega) (by omega) (by omega) 1 _).far (by omega) (by omega) (by omega) 0 _).far (by omega) (by omega) (by omega) 1 _, ?_⟩
  have hW := ((hb02.setCell (leBk (g := g + 1 + 1) (j := 1) (by omega)) (.slice A2 (n * z) c2)).setCell (leBk (g := g + 1) (j := 0) (by omega)) (.int .u8 1)).setCell (leBk (g := g + 1) (j := 1) (by omega)) (.slice A2 (n * z) c2)
  exact ⟨hW.size, hW.os, hW.tape, hW.output, fun k hk _ _ => hW.block k hk⟩

set_option maxHeartbeats 3200000 in
theorem done_flush (w : World) (v r s b z N : Nat) (bs : List UInt8) (vs : List Int) (last : Int) (p n : Nat) (D : Option Addr) (d dc : Nat) (O : Option Addr) (o oc : Nat) (num : Int) (h : VolIs w v r s b z N bs vs last) :
    Calls Tryz.prog 148 #[.pointer (some ⟨v, 0, none⟩), opv 4 p n D d dc O o oc, .int .i64 num] w (DoneIs v r s b z N 1 [] bs vs last w) := by
  obtain ⟨g, hg⟩ : ∃ g, w.heap.size = g := ⟨_, rfl⟩
  obtain ⟨w0, hw0⟩ : ∃ w0, ((w.alloc (.cells #[.int .u8 4, .int .i64 p, .int .i64 n, .slice D d dc, .slice O o oc] 47)).alloc (.cells #[.int .u8 0, .slice none 0 0] 40)).alloc (.cells #[.int .u8 1, .slice none 0 0] 40) = w0 := ⟨_, rfl⟩
  have hO : Blk w0 g [.int .u8 4, .int .i64 p, .int .i64 n, .slice D d dc, .slice O o oc] 47 := by rw [← hw0, ← hg]; exact ((Blk.new w [.int .u8 4, .int .i64 p, .int .i64 n, .slice D d dc, .slice O o oc] _).alloc _).alloc _
  have hZ : Blk w0 (g + 1) [.int .u8 0, .slice none 0 0] 40 := by
    rw [← hw0, ← hg]
    have := (Blk.new (w.alloc (.cells #[.int .u8 4, .int .i64 p, .int .i64 n, .slice D d dc, .slice O o oc] 47)) [.int .u8 0, .slice none 0 0] 40).alloc (.cells #[.int .u8 1, .slice none 0 0] 40)
    rwa [World.size_alloc] at this
  have hR : Blk w0 (g + 1 + 1) [.int .u8 1, .slice none 0 0] 40 := by
    rw [← hw0, ← hg]
    have := Blk.new ((w.alloc (.cells #[.int .u8 4, .int .i64 p, .int .i64 n, .slice D d dc, .slice O o oc] 47)).alloc (.cells #[.int .u8 0, .slice none 0 0] 40)) [.int .u8 1, .slice none 0 0] 40
    rwa [World.size_alloc, World.size_alloc] at this
  have hb0 : Below w.heap.size w w0 := by rw [← hw0]; exact (((Below.refl _ _).alloc (Nat.le_refl _) _).alloc (by simp) _).alloc (by simp; omega) _
  have hV0 := h.below hb0
  have Hw0 := hide hw0
  have vlt := h.blk.lt
  have rlt := h.row.lt
  have slt := h.ver.lt
  clear hw0
  have y0 := hZ.cell (j := 0) rfl
  have y1 := hZ.cell (j := 1) rfl
  have f0 := hZ.frozen 0
  have f1 := hZ.frozen 1
  have x0 := hR.cell (j := 0) rfl
  have x1 := hR.cell (j := 1) rfl
  have e0 := hR.frozen 0
  have e1 := hR.frozen 1
  have hRl := hR.lt
  go_enter Tryz.func148, Tryz.ntmps148
  go_wp2
  have hZf : Blk (((w.alloc (.cells #[.int .u8 4, .int .i64 p, .int .i64 n, .slice D d dc, .slice O o oc] 47)).alloc (.cells #[.int .u8 1, .slice none 0 0] 40)).alloc (.cells #[.int .u8 1, .slice none 0 0] 40)) (g + 1) [.int .u8 1, .slice none 0 0] 40 := by
    rw [← hg]
    have := (Blk.new (w.alloc (.cells #[.int .u8 4, .int .i64 p, .int .i64 n, .slice D d dc, .slice O o oc] 47)) [.int .u8 1, .slice none 0 0] 40).alloc (.cells #[.int .u8 1, .slice none 0 0] 40)
    rwa [World.size_alloc] at this
  have hbf : Below w.heap.size w (((w.alloc (.cells #[.int .u8 4, .int .i64 p, .int .i64 n, .slice D d dc, .slice O o oc] 47)).alloc (.cells #[.int .u8 1, .slice none 0 0] 40)).alloc (.cells #[.int .u8 1, .slice none 0 0] 40)) := (((Below.refl _ _).alloc (Nat.le_refl _) _).alloc (by simp) _).alloc (by simp; omega) _
  refine bodyPost_ret (results_cell rfl rfl hZf Tryz.underlying40 rfl (by kernel_rfl)) rfl ?_
  exact ⟨none, 0, rfl, ⟨Rd.nil, by simp, by omega⟩, (fun a ha => by cases ha), h.below hbf, hbf.size, hbf.os, hbf.tape, hbf.output, fun k hk _ _ => hbf.block k hk⟩

set_option maxHeartbeats 3200000 in
theorem done_write (w : World) (v r s b z N : Nat) (bs : List UInt8) (vs : List Int) (last : Int) (p n : Nat) (D : Option Addr) (d dc : Nat) (O : Option Addr) (o oc : Nat) (num : Int) (h : VolIs w v r s b z N bs vs last) (ds : List UInt8) (hd : ds.length = d) (hD : Rd w D (bys ds)) (hdz : d = n * z) (hn : 1 ≤ n) (hin : p + n ≤ b) :
    Calls Tryz.prog 148 #[.pointer (some ⟨v, 0, none⟩), opv 2 p n D d dc O o oc, .int .i64 num] w (DoneIs v r s b z N 1 [] (splB bs (p * z) ds) (stampL vs p num n) last w) := by
  obtain ⟨g, hg⟩ : ∃ g, w.heap.size = g := ⟨_, rfl⟩
  obtain ⟨w0, hw0⟩ : ∃ w0, ((w.alloc (.cells #[.int .u8 2, .int .i64 p, .int .i64 n, .slice D d dc, .slice O o oc] 47)).alloc (.cells #[.int .u8 0, .slice none 0 0] 40)).alloc (.cells #[.int .u8 1, .slice none 0 0] 40) = w0 := ⟨_, rfl⟩
  have hO : Blk w0 g [.int .u8 2, .int .i64 p, .int .i64 n, .slice D d dc, .slice O o oc] 47 := by rw [← hw0, ← hg]; exact ((Blk.new w [.int .u8 2, .int .i64 p, .int .i64 n, .slice D d dc, .slice O o oc] _).alloc _).alloc _
  have hZ : Blk w0 (g + 1) [.int .u8 0, .slice none 0 0] 40 := by
    rw [← hw0, ← hg]
    have := (Blk.new (w.alloc (.cells #[.int .u8 2, .int .i64 p, .int .i64 n, .slice D d dc, .slice O o oc] 47)) [.int .u8 0, .slice none 0 0] 40).alloc (.cells #[.int .u8 1, .slice none 0 0] 40)
    rwa [World.size_alloc] at this
  have hR : Blk w0 (g + 1 + 1) [.int .u8 1, .slice none 0 0] 40 := by
    rw [← hw0, ← hg]
    have := Blk.new ((w.alloc (.cells #[.int .u8 2, .int .i64 p, .int .i64 n, .slice D d dc, .slice O o oc] 47)).alloc (.cells #[.int .u8 0, .slice none 0 0] 40)) [.int .u8 1, .slice none 0 0] 40
    rwa [World.size_alloc, World.size_alloc] at this
  have hb0 : Below w.heap.size w w0 := by rw [← hw0]; exact (((Below.refl _ _).alloc (Nat.le_refl _) _).alloc (by simp) _).alloc (by simp; omega) _
  have hV0 := h.below hb0
  have Hw0 := hide hw0
  have vlt := h.blk.lt
  have rlt := h.row.lt
  have slt := h.ver.lt
  clear hw0
  obtain ⟨hb1, hb2⟩ := h.hb
  obtain ⟨hz1, hz2⟩ := h.hz
  have hpn := mul_le hin h.hN
  rw [Nat.add_mul] at hpn
  have hD0 := hD.below hb0
  have Hd := hide hd
  have Hdz := hide hdz
  have k0 := hO.cell (j := 0) rfl
  have k1 := hO.cell (j := 1) rfl
  have k2 := hO.cell (j := 2) rfl
  have k3 := hO.cell (j := 3) rfl
  have k4 := hO.cell (j := 4) rfl
  clear hd hdz
  go_enter Tryz.func148, Tryz.ntmps148
  go_wp2_with fail
  rw [Hw0.out]
  go_region_with (first
    | (go_at_call 112; refine (blocks_any _ v r s b z N bs vs last p n (by exact hV0.drewN 1) hn hin).mono ?_; rintro x w1 ⟨rfl, q1, rfl⟩; have cp := fun ty => copy_row (w := w0.drewN (1 + q1)) (dc := dc) (hV0.drewN (1 + q1)) Hd.out hD0 Hdz.out hin ty))
  all_goals
    clear cp
    have hl := splB_length (bs := bs) (xs := ds) (off := p * z) (by rw [Hd.out, h.lb]; have := Hdz.out; omega)
    rw [h.lb] at hl
    have hV3 := (hV0.drewN (1 + q1)).setRow (splB bs (p * z) ds) hl
    have G3 : (w0.drewN (1 + q1)).grownBy _ (some r) := setRow_grown (cs := bys (splB bs (p * z) ds))
    have hO3 := blk_grown (show Blk (w0.drewN (1 + q1)) g _ _ from hO) G3 (by omega)
    have hZ3 := blk_grown (show Blk (w0.drewN (1 + q1)) (g + 1) _ _ from hZ) G3 (by omega)
    have hR3 := blk_grown (show Blk (w0.drewN (1 + q1)) (g + 1 + 1) _ _ from hR) G3 (by omega)
    obtain ⟨w3, hw3⟩ : ∃ w3, (w0.drewN (1 + q1)).setRow r (bys (splB bs (p * z) ds)).toArray = w3 := ⟨_, rfl⟩
    rw [hw3] at hV3 G3 hO3 hZ3 hR3
    rw [hw3]
    obtain ⟨bs', hbs'⟩ : ∃ x, splB bs (p * z) ds = x := ⟨_, rfl⟩
    rw [hbs'] at hV3
    have k1 := hO3.cell (j := 1) rfl
    have hRl := hR3.lt
    have gs3 := G3.size
    have HB := hide hbs'
    clear k0 k1 k2 k3 k4 hl hbs' hw3
    have k1 := hO3.cell (j := 1) rfl
    go_wp2_with fail
    go_fit (stamp_any w3 v r s b z N bs' vs last p n num hV3 hin)
    rintro x w4 ⟨rfl, hV4, G4⟩
    have hZ4 := blk_grown hZ3 G4 (by omega)
    have hR4 := blk_grown hR3 G4 (by omega)
    have gs4 := G4.size
    have y0 := hZ4.cell (j := 0) rfl
    have y1 := hZ4.cell (j := 1) rfl
    have f0 := hZ4.frozen 0
    have f1 := hZ4.frozen 1
    have x0 := hR4.cell (j := 0) rfl
    have x1 := hR4.cell (j := 1) rfl
    go_wp2
    have hZ5 := (hZ4.set 0 (.int .u8 1)).set 1 (.slice none 0 0)
    refine bodyPost_ret (results_cell rfl rfl hZ5 Tryz.underlying40 rfl (by kernel_rfl)) rfl ?_
    rw [HB.out]
    refine ⟨none, 0, rfl, ⟨Rd.nil, by simp, by omega⟩, (fun a ha => by cases ha), (hV4.far (by omega) (by omega) (by omega) 0 _).far (by omega) (by omega) (by omega) 1 _, ?_⟩
    refine ⟨?_, G4.os.trans (G3.os.trans hb0.os), G4.tape.trans (G3.tape.trans hb0.tape), G4.output.trans (G3.output.trans hb0.output), fun q hq hr' hs' => ?_⟩
    · have := hb0.size
      simp only [size_setCell']
      exact Nat.le_trans this (Nat.le_trans gs3 gs4)
    · rw [heap_setCell_other _ ⟨g + 1, 1, none⟩ q _ (by show q ≠ g + 1; omega), heap_setCell_other _ ⟨g + 1, 0, none⟩ q _ (by show q ≠ g + 1; omega)]
      rw [G4.block q (by have := hb0.size; omega) (by intro e; injection e with e; exact hs' e), G3.block q (by have := hb0.size; show q < w0.heap.size; omega) (by intro e; injection e with e; exact hr' e)]
      exact hb0.block q hq

set_option maxHeartbeats 3200000 in
theorem done_trim (w : World) (v r s b z N : Nat) (bs : List UInt8) (vs : List Int) (last : Int) (p n : Nat) (D : Option Addr) (d dc : Nat) (O : Option Addr) (o oc : Nat) (num : Int) (h : VolIs w v r s b z N bs vs last) (hn : 1 ≤ n) (hin : p + n ≤ b) :
    Calls Tryz.prog 148 #[.pointer (some ⟨v, 0, none⟩), opv 3 p n D d dc O o oc, .int .i64 num] w (DoneIs v r s b z N 1 [] (splB bs (p * z) (List.replicate (n * z) 0)) (stampL vs p num n) last w) := by
  obtain ⟨g, hg⟩ : ∃ g, w.heap.size = g := ⟨_, rfl⟩
  obtain ⟨w0, hw0⟩ : ∃ w0, ((w.alloc (.cells #[.int .u8 3, .int .i64 p, .int .i64 n, .slice D d dc, .slice O o oc] 47)).alloc (.cells #[.int .u8 0, .slice none 0 0] 40)).alloc (.cells #[.int .u8 1, .slice none 0 0] 40) = w0 := ⟨_, rfl⟩
  have hO : Blk w0 g [.int .u8 3, .int .i64 p, .int .i64 n, .slice D d dc, .slice O o oc] 47 := by rw [← hw0, ← hg]; exact ((Blk.new w [.int .u8 3, .int .i64 p, .int .i64 n, .slice D d dc, .slice O o oc] _).alloc _).alloc _
  have hZ : Blk w0 (g + 1) [.int .u8 0, .slice none 0 0] 40 := by
    rw [← hw0, ← hg]
    have := (Blk.new (w.alloc (.cells #[.int .u8 3, .int .i64 p, .int .i64 n, .slice D d dc, .slice O o oc] 47)) [.int .u8 0, .slice none 0 0] 40).alloc (.cells #[.int .u8 1, .slice none 0 0] 40)
    rwa [World.size_alloc] at this
  have hR : Blk w0 (g + 1 + 1) [.int .u8 1, .slice none 0 0] 40 := by
    rw [← hw0, ← hg]
    have := Blk.new ((w.alloc (.cells #[.int .u8 3, .int .i64 p, .int .i64 n, .slice D d dc, .slice O o oc] 47)).alloc (.cells #[.int .u8 0, .slice none 0 0] 40)) [.int .u8 1, .slice none 0 0] 40
    rwa [World.size_alloc, World.size_alloc] at this
  have hb0 : Below w.heap.size w w0 := by rw [← hw0]; exact (((Below.refl _ _).alloc (Nat.le_refl _) _).alloc (by simp) _).alloc (by simp; omega) _
  have hV0 := h.below hb0
  have Hw0 := hide hw0
  have vlt := h.blk.lt
  have rlt := h.row.lt
  have slt := h.ver.lt
  clear hw0
  obtain ⟨hb1, hb2⟩ := h.hb
  obtain ⟨hz1, hz2⟩ := h.hz
  have hpn := mul_le hin h.hN
  rw [Nat.add_mul] at hpn
  have k0 := hO.cell (j := 0) rfl
  have k1 := hO.cell (j := 1) rfl
  have k2 := hO.cell (j := 2) rfl
  have k3 := hO.cell (j := 3) rfl
  have k4 := hO.cell (j := 4) rfl
  go_enter Tryz.func148, Tryz.ntmps148
  go_wp2_with fail
  rw [Hw0.out]
  go_fit (blocks_any w0 v r s b z N bs vs last p n hV0 hn hin)
  rintro x w1 ⟨rfl, q0, rfl⟩
  obtain ⟨q1, rfl⟩ : ∃ q1, q0 = q1 := ⟨_, rfl⟩
  have cl := fun ty => clear_row (w := w0.drewN q0) (c := n * z) (hV0.drewN q0) hin ty
  all_goals
    have hl := splB_length (bs := bs) (xs := List.replicate (n * z) 0) (off := p * z) (by rw [List.length_replicate, h.lb]; omega)
    rw [h.lb] at hl
    have hV3 := (hV0.drewN q0).setRow (splB bs (p * z) (List.replicate (n * z) 0)) hl
    have G3 : (w0.drewN q0).grownBy _ (some r) := setRow_grown (cs := bys (splB bs (p * z) (List.replicate (n * z) 0)))
    have hO3 := blk_grown (show Blk (w0.drewN q0) g _ _ from hO) G3 (by omega)
    have hZ3 := blk_grown (show Blk (w0.drewN q0) (g + 1) _ _ from hZ) G3 (by omega)
    have hR3 := blk_grown (show Blk (w0.drewN q0) (g + 1 + 1) _ _ from hR) G3 (by omega)
    have k5 := hO3.cell (j := 1) rfl
    clear k0 k1 k2 k3 k4
    go_wp2_with fail
    clear cl k5
    obtain ⟨w3, hw3⟩ : ∃ w3, (w0.drewN q0).setRow r (bys (splB bs (p * z) (List.replicate (n * z) 0))).toArray = w3 := ⟨_, rfl⟩
    rw [hw3] at hV3 G3 hO3 hZ3 hR3
    rw [hw3]
    obtain ⟨bs', hbs'⟩ : ∃ x, splB bs (p * z) (List.replicate (n * z) 0) = x := ⟨_, rfl⟩
    rw [hbs'] at hV3
    have hRl := hR3.lt
    have gs3 := G3.size
    have HB := hide hbs'
    clear hl hbs' hw3
    go_fit (stamp_any w3 v r s b z N bs' vs last p n num hV3 hin)
    rintro x w4 ⟨rfl, hV4, G4⟩
    have hZ4 := blk_grown hZ3 G4 (by omega)
    have hR4 := blk_grown hR3 G4 (by omega)
    have gs4 := G4.size
    have y0 := hZ4.cell (j := 0) rfl
    have y1 := hZ4.cell (j := 1) rfl
    have f0 := hZ4.frozen 0
    have f1 := hZ4.frozen 1
    have x0 := hR4.cell (j := 0) rfl
    have x1 := hR4.cell (j := 1) rfl
    go_wp2
    have hZ5 := (hZ4.set 0 (.int .u8 1)).set 1 (.slice none 0 0)
    refine bodyPost_ret (results_cell rfl rfl hZ5 Tryz.underlying40 rfl (by kernel_rfl)) rfl ?_
    rw [HB.out]
    refine ⟨none, 0, rfl, ⟨Rd.nil, by simp, by omega⟩, (fun a ha => by cases ha), (hV4.far (by omega) (by omega) (by omega) 0 _).far (by omega) (by omega) (by omega) 1 _, ?_⟩
    refine ⟨?_, G4.os.trans (G3.os.trans hb0.os), G4.tape.trans (G3.tape.trans hb0.tape), G4.output.trans (G3.output.trans hb0.output), fun q hq hr' hs' => ?_⟩
    · have := hb0.size
      simp only [size_setCell']
      exact Nat.le_trans this (Nat.le_trans gs3 gs4)
    · rw [heap_setCell_other _ ⟨g + 1, 1, none⟩ q _ (by show q ≠ g + 1; omega), heap_setCell_other _ ⟨g + 1, 0, none⟩ q _ (by show q ≠ g + 1; omega)]
      rw [G4.block q (by have := hb0.size; omega) (by intro e; injection e with e; exact hs' e), G3.block q (by have := hb0.size; show q < w0.heap.size; omega) (by intro e; injection e with e; exact hr' e)]
      exact hb0.block q hq

theorem blocks_one (w : World) (v r s b z N : Nat) (bs : List UInt8) (vs : List Int) (last : Int) (i : Nat) (h : VolIs w v r s b z N bs vs last) (hin : i + 1 ≤ b) :
    Calls Tryz.prog 112 #[.pointer (some ⟨v, 0, none⟩), .int .i64 i, .int .i64 1] w fun e w' => e = .returned (.slice (some ⟨r, i * z, none⟩) z z) ∧ ∃ q, w' = w.drewN q := by
  have := blocks_any w v r s b z N bs vs last i 1 h (Nat.le_refl _) hin
  rw [Nat.one_mul] at this
  exact this
theorem stamp_one (w : World) (v r s b z N : Nat) (bs : List UInt8) (vs : List Int) (last : Int) (i0 : Nat) (num : Int) (h : VolIs w v r s b z N bs vs last) (hin : i0 + 1 ≤ b) :
    Calls Tryz.prog 163 #[.pointer (some ⟨v, 0, none⟩), .int .i64 i0, .int .i64 1, .int .i64 num] w fun e w' => e = .returned (.tuple #[]) ∧ VolIs w' v r s b z N bs (stampL vs i0 num 1) last ∧ w.grownBy w' (some s) :=
  stamp_any w v r s b z N bs vs last i0 1 num h hin
theorem copy_one {w : World} {v r s b z N : Nat} {bs : List UInt8} {vs : List Int} {last : Int} (h : VolIs w v r s b z N bs vs last) {p d dc : Nat} {D : Option Addr} {ds : List UInt8} (hd : ds.length = d) (hD : Rd w D (bys ds)) (hdz : d = z) (hin : p + 1 ≤ b) (ty : TypeId) :
    (Builtin.copy_ #[38, 38] ty #[.slice (some ⟨r, p * z, none⟩) z z, .slice D d dc]).run Tryz.prog w = .ok (goInt (d : Nat)) (w.setRow r (bys (splB bs (p * z) ds)).toArray) := by
  have := copy_row (n := 1) h hd hD (by omega) hin ty (dc := dc)
  rw [Nat.one_mul] at this
  exact this
set_option maxHeartbeats 3200000 in
theorem done_swapno (w : World) (v r s b z N : Nat) (bs : List UInt8) (vs : List Int) (last : Int) (p n : Nat) (D : Option Addr) (d dc : Nat) (O : Option Addr) (o oc : Nat) (num : Int) (h : VolIs w v r s b z N bs vs last) (xs : List UInt8) (ho : xs.length = o) (hQ : Rd w O (bys xs)) (hin : p + 1 ≤ b) (HEQ : (segB bs p 1 z == xs) = false) :
    Calls Tryz.prog 148 #[.pointer (some ⟨v, 0, none⟩), opv 5 p n D d dc O o oc, .int .i64 num] w (DoneIs v r s b z N 4 (segB bs p 1 z) bs vs last w) := by
  obtain ⟨g, hg⟩ : ∃ g, w.heap.size = g := ⟨_, rfl⟩
  obtain ⟨w0, hw0⟩ : ∃ w0, ((w.alloc (.cells #[.int .u8 5, .int .i64 p, .int .i64 n, .slice D d dc, .slice O o oc] 47)).alloc (.cells #[.int .u8 0, .slice none 0 0] 40)).alloc (.cells #[.int .u8 1, .slice none 0 0] 40) = w0 := ⟨_, rfl⟩
  have hO : Blk w0 g [.int .u8 5, .int .i64 p, .int .i64 n, .slice D d dc, .slice O o oc] 47 := by rw [← hw0, ← hg]; exact ((Blk.new w [.int .u8 5, .int .i64 p, .int .i64 n, .slice D d dc, .slice O o oc] _).alloc _).alloc _
  have hZ : Blk w0 (g + 1) [.int .u8 0, .slice none 0 0] 40 := by
    rw [← hw0, ← hg]
    have := (Blk.new (w.alloc (.cells #[.int .u8 5, .int .i64 p, .int .i64 n, .slice D d dc, .slice O o oc] 47)) [.int .u8 0, .slice none 0 0] 40).alloc (.cells #[.int .u8 1, .slice none 0 0] 40)
    rwa [World.size_alloc] at this
  have hR : Blk w0 (g + 1 + 1) [.int .u8 1, .slice none 0 0] 40 := by
    rw [← hw0, ← hg]
    have := Blk.new ((w.alloc (.cells #[.int .u8 5, .int .i64 p, .int .i64 n, .slice D d dc, .slice O o oc] 47)).alloc (.cells #[.int .u8 0, .slice none 0 0] 40)) [.int .u8 1, .slice none 0 0] 40
    rwa [World.size_alloc, World.size_alloc] at this
  have hb0 : Below w.heap.size w w0 := by rw [← hw0]; exact (((Below.refl _ _).alloc (Nat.le_refl _) _).alloc (by simp) _).alloc (by simp; omega) _
  have hV0 := h.below hb0
  have Hw0 := hide hw0
  have vlt := h.blk.lt
  have rlt := h.row.lt
  have slt := h.ver.lt
  clear hw0
  obtain ⟨hb1, hb2⟩ := h.hb
  obtain ⟨hz1, hz2⟩ := h.hz
  have hsl := segB_length (bs := bs) (p := p) (n := 1) h.lb h.hN hin
  rw [Nat.one_mul] at hsl
  have hQ0 := hQ.below hb0
  have Ho := hide ho
  have hsg := hV0.seg p 1
  obtain ⟨hd0, hhd⟩ : ∃ x, segB bs p 1 z = x := ⟨_, rfl⟩
  rw [hhd] at hsl hsg HEQ
  have HH := hide hhd
  have Hsl := hide hsl
  have k0 := hO.cell (j := 0) rfl
  have k1 := hO.cell (j := 1) rfl
  have k2 := hO.cell (j := 2) rfl
  have k3 := hO.cell (j := 3) rfl
  have k4 := hO.cell (j := 4) rfl
  clear ho hhd hsl
  go_enter Tryz.func148, Tryz.ntmps148
  go_wp2_with fail
  rw [Hw0.out]
  go_fit (blocks_one w0 v r s b z N bs vs last p hV0 hin)
  rintro x w1 ⟨rfl, q0, rfl⟩
  have hk4 := (show Blk (w0.drewN q0) g _ _ from hO).cell (j := 4) rfl
  go_wp2_with fail
  go_fit (bequal_any (some ⟨r, p * z, none⟩) z z hd0 O o oc xs (w0.drewN q0) Hsl.out (hsg.drewN q0) Ho.out (hQ0.drewN q0))
  rw [HEQ]
  rintro x w1 ⟨rfl, rfl⟩
  go_wp2_with fail
  go_fit (clone_any (some ⟨r, p * z, none⟩) z z hd0 _ Hsl.out (by omega) (hsg.drewN q0))
  rintro x w2 ⟨u2, rfl, ho2, hb2⟩
  obtain ⟨A2, c2, rfl, _, hc2, hcm2, hr2, ha2⟩ := own_out ho2
  have hZ2 := (show Blk (w0.drewN q0) (g + 1) [.int .u8 0, .slice none 0 0] 40 from hZ).below hb2
  have hV2 := (hV0.drewN q0).below hb2
  have sz2 : w0.heap.size ≤ w2.heap.size := hb2.size
  have hb02 := (below_drewN hb0 q0).trans (hb2.mono hb0.size)
  have hRl := hR.lt
  clear k0 k1 k2 k3 k4 hk4
  have y0 := hZ2.cell (j := 0) rfl
  have y1 := hZ2.cell (j := 1) rfl
  have f0 := hZ2.frozen 0
  have f1 := hZ2.frozen 1
  go_wp2
  have hZ3 := (hZ2.set 0 (.int .u8 4)).set 1 (.slice A2 z c2)
  refine bodyPost_ret (results_cell rfl rfl hZ3 Tryz.underlying40 rfl (by kernel_rfl)) rfl ?_
  have uA : ∀ a, A2 = some a → g + 1 + 1 + 1 ≤ a.block := fun a ha => by
    have := (ha2 a ha).1
    simp at this; omega
  rw [HH.out]
  refine ⟨A2, c2, by rw [Hsl.out]; rfl, ⟨(hr2.upset (g := g + 1) uA (by omega)).upset (g := g + 1) uA (by omega), by rw [Hsl.out]; exact hc2, by unfold maxLen at hcm2; omega⟩, (fun a ha => by have := uA a ha; omega), (hV2.far (by omega) (by omega) (by omega) 0 _).far (by omega) (by omega) (by omega) 1 _, ?_⟩
  have hW := (hb02.setCell (leBk (g := g + 1) (j := 0) (by omega)) (.int .u8 4)).setCell (leBk (g := g + 1) (j := 1) (by omega)) (.slice A2 z c2)
  exact ⟨hW.size, hW.os, hW.tape, hW.output, fun k hk _ _ => hW.block k hk⟩

set_option maxHeartbeats 3200000 in
theorem done_swapyes (w : World) (v r s b z N : Nat) (bs : List UInt8) (vs : List Int) (last : Int) (p n : Nat) (D : Option Addr) (d dc : Nat) (O : Option Addr) (o oc : Nat) (num : Int) (h : VolIs w v r s b z N bs vs last) (ds xs : List UInt8) (hd : ds.length = d) (hD : Rd w D (bys ds)) (hdz : d = z) (ho : xs.length = o) (hQ : Rd w O (bys xs)) (hin : p + 1 ≤ b) (HEQ : (segB bs p 1 z == xs) = true) :
    Calls Tryz.prog 148 #[.pointer (some ⟨v, 0, none⟩), opv 5 p n D d dc O o oc, .int .i64 num] w (DoneIs v r s b z N 1 [] (splB bs (p * z) ds) (stampL vs p num 1) last w) := by
  obtain ⟨g, hg⟩ : ∃ g, w.heap.size = g := ⟨_, rfl⟩
  obtain ⟨w0, hw0⟩ : ∃ w0, ((w.alloc (.cells #[.int .u8 5, .int .i64 p, .int .i64 n, .slice D d dc, .slice O o oc] 47)).alloc (.cells #[.int .u8 0, .slice none 0 0] 40)).alloc (.cells #[.int .u8 1, .slice none 0 0] 40) = w0 := ⟨_, rfl⟩
  have hO : Blk w0 g [.int .u8 5, .int .i64 p, .int .i64 n, .slice D d dc, .slice O o oc] 47 := by rw [← hw0, ← hg]; exact ((Blk.new w [.int .u8 5, .int .i64 p, .int .i64 n, .slice D d dc, .slice O o oc] _).alloc _).alloc _
  have hZ : Blk w0 (g + 1) [.int .u8 0, .slice none 0 0] 40 := by
    rw [← hw0, ← hg]
    have := (Blk.new (w.alloc (.cells #[.int .u8 5, .int .i64 p, .int .i64 n, .slice D d dc, .slice O o oc] 47)) [.int .u8 0, .slice none 0 0] 40).alloc (.cells #[.int .u8 1, .slice none 0 0] 40)
    rwa [World.size_alloc] at this
  have hR : Blk w0 (g + 1 + 1) [.int .u8 1, .slice none 0 0] 40 := by
    rw [← hw0, ← hg]
    have := Blk.new ((w.alloc (.cells #[.int .u8 5, .int .i64 p, .int .i64 n, .slice D d dc, .slice O o oc] 47)).alloc (.cells #[.int .u8 0, .slice none 0 0] 40)) [.int .u8 1, .slice none 0 0] 40
    rwa [World.size_alloc, World.size_alloc] at this
  have hb0 : Below w.heap.size w w0 := by rw [← hw0]; exact (((Below.refl _ _).alloc (Nat.le_refl _) _).alloc (by simp) _).alloc (by simp; omega) _
  have hV0 := h.below hb0
  have Hw0 := hide hw0
  have vlt := h.blk.lt
  have rlt := h.row.lt
  have slt := h.ver.lt
  clear hw0
  obtain ⟨hb1, hb2⟩ := h.hb
  obtain ⟨hz1, hz2⟩ := h.hz
  have hsl := segB_length (bs := bs) (p := p) (n := 1) h.lb h.hN hin
  rw [Nat.one_mul] at hsl
  have hQ0 := hQ.below hb0
  have Ho := hide ho
  have Hd := hide hd
  have Hdz := hide hdz
  have hD0 := hD.below hb0
  have hsg := hV0.seg p 1
  obtain ⟨hd0, hhd⟩ : ∃ x, segB bs p 1 z = x := ⟨_, rfl⟩
  rw [hhd] at hsl hsg HEQ
  have HH := hide hhd
  have Hsl := hide hsl
  have k0 := hO.cell (j := 0) rfl
  have k1 := hO.cell (j := 1) rfl
  have k2 := hO.cell (j := 2) rfl
  have k3 := hO.cell (j := 3) rfl
  have k4 := hO.cell (j := 4) rfl
  clear ho hhd hsl hd hdz
  go_enter Tryz.func148, Tryz.ntmps148
  go_wp2_with fail
  rw [Hw0.out]
  go_fit (blocks_one w0 v r s b z N bs vs last p hV0 hin)
  rintro x w1 ⟨rfl, q0, rfl⟩
  go_wp2_with fail
  go_fit (bequal_any (some ⟨r, p * z, none⟩) z z hd0 O o oc xs (w0.drewN q0) Hsl.out (hsg.drewN q0) Ho.out (hQ0.drewN q0))
  rw [HEQ]
  rintro x w1 ⟨rfl, rfl⟩
  go_wp2_with fail
  go_region_with (first
    | (go_at_call 112; refine (blocks_one _ v r s b z N bs vs last p (by first | exact hV0.drewN (q0 + 1) | exact hV0.drewN (1 + q0)) hin).mono ?_; rintro x w1 ⟨rfl, q1, rfl⟩; have cp := fun ty => copy_one (w := w0.drewN (q0 + 1 + q1)) (dc := dc) (hV0.drewN (q0 + 1 + q1)) Hd.out hD0 Hdz.out hin ty))
  all_goals
    clear cp
    have hpn := mul_le hin h.hN
    rw [Nat.add_mul] at hpn
    have hl := splB_length (bs := bs) (xs := ds) (off := p * z) (by rw [Hd.out, h.lb]; have := Hdz.out; omega)
    rw [h.lb] at hl
    have hV3 := (hV0.drewN (q0 + 1 + q1)).setRow (splB bs (p * z) ds) hl
    have G3 : (w0.drewN (q0 + 1 + q1)).grownBy _ (some r) := setRow_grown (cs := bys (splB bs (p * z) ds))
    have hO3 := blk_grown (show Blk (w0.drewN (q0 + 1 + q1)) g _ _ from hO) G3 (by omega)
    have hZ3 := blk_grown (show Blk (w0.drewN (q0 + 1 + q1)) (g + 1) _ _ from hZ) G3 (by omega)
    have hR3 := blk_grown (show Blk (w0.drewN (q0 + 1 + q1)) (g + 1 + 1) _ _ from hR) G3 (by omega)
    obtain ⟨w3, hw3⟩ : ∃ w3, (w0.drewN (q0 + 1 + q1)).setRow r (bys (splB bs (p * z) ds)).toArray = w3 := ⟨_, rfl⟩
    rw [hw3] at hV3 G3 hO3 hZ3 hR3
    rw [hw3]
    obtain ⟨bs', hbs'⟩ : ∃ x, splB bs (p * z) ds = x := ⟨_, rfl⟩
    rw [hbs'] at hV3
    have k1 := hO3.cell (j := 1) rfl
    have hRl := hR3.lt
    have gs3 := G3.size
    have HB := hide hbs'
    clear k0 k1 k2 k3 k4 hl hbs' hw3 hpn
    have k1 := hO3.cell (j := 1) rfl
    go_wp2_with fail
    go_fit (stamp_one w3 v r s b z N bs' vs last p num hV3 hin)
    rintro x w4 ⟨rfl, hV4, G4⟩
    have hZ4 := blk_grown hZ3 G4 (by omega)
    have hR4 := blk_grown hR3 G4 (by omega)
    have gs4 := G4.size
    have y0 := hZ4.cell (j := 0) rfl
    have y1 := hZ4.cell (j := 1) rfl
    have f0 := hZ4.frozen 0
    have f1 := hZ4.frozen 1
    have x0 := hR4.cell (j := 0) rfl
    have x1 := hR4.cell (j := 1) rfl
    go_wp2
    have hZ5 := (hZ4.set 0 (.int .u8 1)).set 1 (.slice none 0 0)
    refine bodyPost_ret (results_cell rfl rfl hZ5 Tryz.underlying40 rfl (by kernel_rfl)) rfl ?_
    rw [HB.out]
    refine ⟨none, 0, rfl, ⟨Rd.nil, by simp, by omega⟩, (fun a ha => by cases ha), (hV4.far (by omega) (by omega) (by omega) 0 _).far (by omega) (by omega) (by omega) 1 _, ?_⟩
    refine ⟨?_, G4.os.trans (G3.os.trans hb0.os), G4.tape.trans (G3.tape.trans hb0.tape), G4.output.trans (G3.output.trans hb0.output), fun q hq hr' hs' => ?_⟩
    · have := hb0.size
      simp only [size_setCell']
      exact Nat.le_trans this (Nat.le_trans gs3 gs4)
    · rw [heap_setCell_other _ ⟨g + 1, 1, none⟩ q _ (by show q ≠ g + 1; omega), heap_setCell_other _ ⟨g + 1, 0, none⟩ q _ (by show q ≠ g + 1; omega)]
      rw [G4.block q (by have := hb0.size; omega) (by intro e; injection e with e; exact hs' e), G3.block q (by have := hb0.size; show q < w0.heap.size; omega) (by intro e; injection e with e; exact hr' e)]
      exact hb0.block q hq
end Go.Proofs.YtkknkdjdneldlaaGreat
namespace Go.Proofs.YtkknkdjdneldlaaGreat
set_option maxRecDepth 20000
open Go.RowKit Go.Px
set_option linter.unusedVariables false

/-- The error of a request, its code, its data, the volume behind it. -/
def doE (b z last : Int) (k : Nat) (p n : Int) (d o : Nat) (num : Int) : Int := if serB num = true ∧ ¬ num < last then ftE b z k p n d o else 5
def doK (b z : Nat) (bs : List UInt8) (k : Nat) (p n : Int) (d : Nat) (os : List UInt8) : Nat :=
  if ftC b z k p n d os.length = 1 then (if k = 5 ∧ (segB bs p.toNat 1 z == os) = false then 4 else 1) else (ftC b z k p n d os.length).toNat
def doD (b z : Nat) (bs : List UInt8) (k : Nat) (p n : Int) (d : Nat) (os : List UInt8) : List UInt8 :=
  if ftC b z k p n d os.length = 1 then (if k = 1 then segB bs p.toNat n.toNat z else if k = 5 ∧ (segB bs p.toNat 1 z == os) = false then segB bs p.toNat 1 z else []) else []
/-- Does it change blocks? -/
def doW (b z : Nat) (bs : List UInt8) (k : Nat) (p n : Int) (d : Nat) (os : List UInt8) : Bool :=
  decide (ftC b z k p n d os.length = 1) && (decide (k = 2) || decide (k = 3) || (decide (k = 5) && (segB bs p.toNat 1 z == os)))
def doN (k : Nat) (n : Int) : Nat := if k = 5 then 1 else n.toNat
def doP (z : Nat) (k : Nat) (n : Int) (ds : List UInt8) : List UInt8 := if k = 3 then List.replicate (n.toNat * z) 0 else ds
def doB (b z : Nat) (bs : List UInt8) (k : Nat) (p n : Int) (ds os : List UInt8) : List UInt8 :=
  if doW b z bs k p n ds.length os = true then splB bs (p.toNat * z) (doP z k n ds) else bs
def doV (b z : Nat) (bs : List UInt8) (vs : List Int) (k : Nat) (p n : Int) (ds os : List UInt8) (num : Int) : List Int :=
  if doW b z bs k p n ds.length os = true then stampL vs p.toNat num (doN k n) else vs
/-- All that was there but the volume is as it was. -/
structure Upd (v r s : Nat) (w w' : World) : Prop where
  os : w'.os = w.os
  tape : w'.tape = w.tape
  output : w'.output = w.output
  size : w.heap.size ≤ w'.heap.size
  blk : ∀ k, k < w.heap.size → k ≠ v → k ≠ r → k ≠ s → w'.heap[k]? = w.heap[k]?
section
variable {v r s : Nat} {w w' w'' : World}
theorem Upd.trans (h : Upd v r s w w') (k : Upd v r s w' w'') : Upd v r s w w'' :=
  ⟨k.os.trans h.os, k.tape.trans h.tape, k.output.trans h.output, Nat.le_trans h.size k.size, fun i hi h1 h2 h3 => (k.blk i (Nat.lt_of_lt_of_le hi h.size) h1 h2 h3).trans (h.blk i hi h1 h2 h3)⟩
theorem Upd.of_below (h : Below w.heap.size w w') : Upd v r s w w' := ⟨h.os, h.tape, h.output, h.size, fun k hk _ _ _ => h.block k hk⟩
theorem Upd.setV (w : World) (j : Nat) (u : Value) : Upd v r s w (w.setCell ⟨v, j, none⟩ u) := ⟨rfl, rfl, rfl, by simp, fun k _ h _ _ => heap_setCell_other w ⟨v, j, none⟩ k u h⟩
theorem Upd.set_v (h : Upd v r s w w') (j : Nat) (u : Value) : Upd v r s w (w'.setCell ⟨v, j, none⟩ u) := h.trans (Upd.setV w' j u)
theorem Upd.set_far (h : Upd v r s w w') {g : Nat} (hg : w.heap.size ≤ g) (j : Nat) (u : Value) : Upd v r s w (w'.setCell ⟨g, j, none⟩ u) :=
  ⟨h.os, h.tape, h.output, by simpa using h.size, fun k hk h1 h2 h3 => (heap_setCell_other w' ⟨g, j, none⟩ k u (by show k ≠ g; omega)).trans (h.blk k hk h1 h2 h3)⟩
theorem Upd.below {B : Nat} {W : World} (h : Upd v r s w w') (hb : Below B W w) (hB : B ≤ w.heap.size) (hv : B ≤ v) (hr : B ≤ r) (hs : B ≤ s) : Below B W w' :=
  ⟨h.os.trans hb.os, h.tape.trans hb.tape, h.output.trans hb.output, Nat.le_trans hb.size h.size, fun k hk => (h.blk k (by omega) (by omega) (by omega) (by omega)).trans (hb.block k hk)⟩
end
def DoIs (v r s b z N : Nat) (E : Int) (C : Nat) (data : List UInt8) (bs' : List UInt8) (vs' : List Int) (last : Int) (w : World) (e : Ending) (w' : World) : Prop :=
  ∃ A c, e = .returned (.tuple #[resv C A data.length c, .int .i64 E]) ∧ (Rd w' A (bys data) ∧ data.length ≤ c ∧ c ≤ 9223372036854775807) ∧ (∀ a, A = some a → w.heap.size ≤ a.block) ∧ VolIs w' v r s b z N bs' vs' last ∧ Upd v r s w w'
theorem VolIs.setLast {w : World} {v r s b z N : Nat} {bs : List UInt8} {vs : List Int} {last : Int} (h : VolIs w v r s b z N bs vs last) (x : Int) : VolIs (w.setCell ⟨v, 4, none⟩ (.int .i64 x)) v r s b z N bs vs x :=
  { h with blk := h.blk.set 4 (.int .i64 x), row := h.row.apart (Ne.symm h.vr) 4 _, ver := h.ver.apart (Ne.symm h.vs_) 4 _ }
set_option maxHeartbeats 3200000 in
theorem do_badnum (w : World) (v r s b z N : Nat) (bs : List UInt8) (vs : List Int) (last : Int) (k : Nat) (p n : Int) (D : Option Addr) (d dc : Nat) (O : Option Addr) (o oc : Nat) (num : Int) (h : VolIs w v r s b z N bs vs last) (hbad : ¬ (serB num = true ∧ ¬ num < last)) :
    Calls Tryz.prog 104 #[.pointer (some ⟨v, 0, none⟩), opv k p n D d dc O o oc, .int .i64 num] w (DoIs v r s b z N 5 0 [] bs vs last w) := by
  obtain ⟨g, hg⟩ : ∃ g, w.heap.size = g := ⟨_, rfl⟩
  obtain ⟨w0, hw0⟩ : ∃ w0, (w.alloc (.cells #[.int .u8 k, .int .i64 p, .int .i64 n, .slice D d dc, .slice O o oc] 47)).alloc (.cells #[.int .u8 0, .slice none 0 0] 40) = w0 := ⟨_, rfl⟩
  have hZ : Blk w0 (g + 1) [.int .u8 0, .slice none 0 0] 40 := by
    rw [← hw0, ← hg]
    have := Blk.new (w.alloc (.cells #[.int .u8 k, .int .i64 p, .int .i64 n, .slice D d dc, .slice O o oc] 47)) [.int .u8 0, .slice none 0 0] 40
    rwa [World.size_alloc] at this
  have hb0 : Below w.heap.size w w0 := by rw [← hw0]; exact ((Below.refl _ _).alloc (Nat.le_refl _) _).alloc (by simp) _
  have hV0 := h.below hb0
  have x4 := hV0.blk.cell (j := 4) rfl
  have y0 := hZ.cell (j := 0) rfl
  have y1 := hZ.cell (j := 1) rfl
  have f0 := hZ.frozen 0
  have f1 := hZ.frozen 1
  have slt := h.ver.lt
  have vlt := h.blk.lt
  have rlt := h.row.lt
  have fin : DoIs v r s b z N 5 0 [] bs vs last w (.returned (.tuple #[resv 0 none 0 0, .int .i64 5])) ((w0.setCell ⟨g + 1, 0, none⟩ (.int .u8 0)).setCell ⟨g + 1, 1, none⟩ (.slice none 0 0)) :=
    ⟨none, 0, rfl, ⟨Rd.nil, by simp, by omega⟩, (fun a ha => by cases ha), (hV0.far (by omega) (by omega) (by omega) 0 _).far (by omega) (by omega) (by omega) 1 _, Upd.of_below ((hb0.setCell (leBk (by omega)) _).setCell (leBk (by omega)) _)⟩
  have Fin := hide fin
  clear fin
  cases hs : serB num with
  | false =>
    have Hs := hide hs
    clear hs
    go_enter Tryz.func104, Tryz.ntmps104
    go_wp2_with fail
    go_fit (made_any w0 v r s b z N bs vs last hV0)
    rintro x w1 ⟨rfl, rfl⟩
    go_wp2_with fail
    go_fit (serial_any num w0)
    rw [Hs.out]
    rintro x w1 ⟨rfl, rfl⟩
    go_wp2
    refine bodyPost_ret (results_cell2 rfl rfl ((hZ.set 0 (.int .u8 0)).set 1 (.slice none 0 0)) Tryz.underlying40 rfl (by kernel_rfl)) rfl ?_
    exact Fin.out
  | true =>
    have hl : num < last := by
      rw [hs] at hbad
      exact Classical.not_not.1 (fun hh => hbad ⟨rfl, hh⟩)
    have Hs := hide hs
    clear hs hbad
    go_enter Tryz.func104, Tryz.ntmps104
    go_wp2_with fail
    go_fit (made_any w0 v r s b z N bs vs last hV0)
    rintro x w1 ⟨rfl, rfl⟩
    go_wp2_with fail
    go_fit (serial_any num w0)
    rw [Hs.out]
    rintro x w1 ⟨rfl, rfl⟩
    go_wp2
    refine bodyPost_ret (results_cell2 rfl rfl ((hZ.set 0 (.int .u8 0)).set 1 (.slice none 0 0)) Tryz.underlying40 rfl (by kernel_rfl)) rfl ?_
    exact Fin.out
end Go.Proofs.YtkknkdjdneldlaaGreat
namespace Go.Proofs.YtkknkdjdneldlaaGreat
set_option maxRecDepth 20000
open Go.RowKit Go.Px
set_option linter.unusedVariables false

set_option maxHeartbeats 3200000 in
theorem do_badfit (w : World) (v r s b z N : Nat) (bs : List UInt8) (vs : List Int) (last : Int) (k : Nat) (p n : Int) (D : Option Addr) (d dc : Nat) (O : Option Addr) (o oc : Nat) (num : Int) (hk : k < 256) (h : VolIs w v r s b z N bs vs last) (hs : serB num = true) (hl : ¬ num < last) (E : Int) (hE : E ≠ 0) (hf : ftE b z k p n d o = E) (hc : ftC b z k p n d o = 0) :
    Calls Tryz.prog 104 #[.pointer (some ⟨v, 0, none⟩), opv k p n D d dc O o oc, .int .i64 num] w (DoIs v r s b z N E 0 [] bs vs last w) := by
  have q1 : (E != 0) = true := by simpa using hE
  obtain ⟨g, hg⟩ : ∃ g, w.heap.size = g := ⟨_, rfl⟩
  obtain ⟨w0, hw0⟩ : ∃ w0, (w.alloc (.cells #[.int .u8 k, .int .i64 p, .int .i64 n, .slice D d dc, .slice O o oc] 47)).alloc (.cells #[.int .u8 0, .slice none 0 0] 40) = w0 := ⟨_, rfl⟩
  have hO : Blk w0 g [.int .u8 k, .int .i64 p, .int .i64 n, .slice D d dc, .slice O o oc] 47 := by rw [← hw0, ← hg]; exact (Blk.new w [.int .u8 k, .int .i64 p, .int .i64 n, .slice D d dc, .slice O o oc] _).alloc _
  have hZ : Blk w0 (g + 1) [.int .u8 0, .slice none 0 0] 40 := by
    rw [← hw0, ← hg]
    have := Blk.new (w.alloc (.cells #[.int .u8 k, .int .i64 p, .int .i64 n, .slice D d dc, .slice O o oc] 47)) [.int .u8 0, .slice none 0 0] 40
    rwa [World.size_alloc] at this
  have hb0 : Below w.heap.size w w0 := by rw [← hw0]; exact ((Below.refl _ _).alloc (Nat.le_refl _) _).alloc (by simp) _
  have hV0 := h.below hb0
  have slt := h.ver.lt
  have vlt := h.blk.lt
  have rlt := h.row.lt
  have Hs := hide hs
  have hl' : decide (num < last) = false := decide_eq_false hl
  have Hf := hide hf
  have Hc := hide hc
  have x0 := hV0.blk.cell (j := 0) rfl
  have x1 := hV0.blk.cell (j := 1) rfl
  have x4 := hV0.blk.cell (j := 4) rfl
  have k0 := hO.cell (j := 0) rfl
  have k1 := hO.cell (j := 1) rfl
  have k2 := hO.cell (j := 2) rfl
  have k3 := hO.cell (j := 3) rfl
  have k4 := hO.cell (j := 4) rfl
  clear hs hl hf hc
  go_enter Tryz.func104, Tryz.ntmps104
  go_wp2_with fail
  go_fit (made_any w0 v r s b z N bs vs last hV0)
  rintro x w1 ⟨rfl, rfl⟩
  go_wp2_with fail
  go_fit (serial_any num w0)
  rw [Hs.out]
  rintro x w1 ⟨rfl, rfl⟩
  go_wp2_with fail
  go_region_with (first
    | (go_at_call 147; refine (fit_any b z k p n D d dc O o oc _ hk).mono ?_; rintro x w1 ⟨hx, hb1⟩; rw [Hf.out, Hc.out] at hx; subst hx))
  all_goals
    have hV1 := hV0.drew.below hb1
    have hO1 := hO.drew.below hb1
    have hZ1 := hZ.drew.below hb1
    have hb01 := hb0.drew.trans (hb1.mono hb0.size)
    have sz1 : w0.heap.size ≤ w1.heap.size := hb1.size
    have zl := hZ.lt
    clear x0 x1 x4 k0 k1 k2 k3 k4
    have y0 := hZ1.cell (j := 0) rfl
    have y1 := hZ1.cell (j := 1) rfl
    have f0 := hZ1.frozen 0
    have f1 := hZ1.frozen 1
    go_wp2
    refine bodyPost_ret (results_cell2 rfl rfl ((hZ1.set 0 (.int .u8 0)).set 1 (.slice none 0 0)) Tryz.underlying40 rfl (by kernel_rfl)) rfl ?_
    exact ⟨none, 0, rfl, ⟨Rd.nil, by simp, by omega⟩, (fun a ha => by cases ha), (hV1.far (by omega) (by omega) (by omega) 0 _).far (by omega) (by omega) (by omega) 1 _, Upd.of_below ((hb01.setCell (leBk (by omega)) _).setCell (leBk (by omega)) _)⟩

set_option maxHeartbeats 3200000 in
theorem do_badcode (w : World) (v r s b z N : Nat) (bs : List UInt8) (vs : List Int) (last : Int) (k : Nat) (p n : Int) (D : Option Addr) (d dc : Nat) (O : Option Addr) (o oc : Nat) (num : Int) (hk : k < 256) (h : VolIs w v r s b z N bs vs last) (hs : serB num = true) (hl : ¬ num < last) (C : Nat) (hC : C ≠ 1) (hf : ftE b z k p n d o = 0) (hc : ftC b z k p n d o = (C : Int)) :
    Calls Tryz.prog 104 #[.pointer (some ⟨v, 0, none⟩), opv k p n D d dc O o oc, .int .i64 num] w (DoIs v r s b z N 0 C [] bs vs num w) := by
  have q1 : ((C : Int) != 1) = true := by simp; omega
  obtain ⟨g, hg⟩ : ∃ g, w.heap.size = g := ⟨_, rfl⟩
  obtain ⟨w0, hw0⟩ : ∃ w0, (w.alloc (.cells #[.int .u8 k, .int .i64 p, .int .i64 n, .slice D d dc, .slice O o oc] 47)).alloc (.cells #[.int .u8 0, .slice none 0 0] 40) = w0 := ⟨_, rfl⟩
  have hO : Blk w0 g [.int .u8 k, .int .i64 p, .int .i64 n, .slice D d dc, .slice O o oc] 47 := by rw [← hw0, ← hg]; exact (Blk.new w [.int .u8 k, .int .i64 p, .int .i64 n, .slice D d dc, .slice O o oc] _).alloc _
  have hZ : Blk w0 (g + 1) [.int .u8 0, .slice none 0 0] 40 := by
    rw [← hw0, ← hg]
    have := Blk.new (w.alloc (.cells #[.int .u8 k, .int .i64 p, .int .i64 n, .slice D d dc, .slice O o oc] 47)) [.int .u8 0, .slice none 0 0] 40
    rwa [World.size_alloc] at this
  have hb0 : Below w.heap.size w w0 := by rw [← hw0]; exact ((Below.refl _ _).alloc (Nat.le_refl _) _).alloc (by simp) _
  have hV0 := h.below hb0
  have slt := h.ver.lt
  have vlt := h.blk.lt
  have rlt := h.row.lt
  have Hs := hide hs
  have hl' : decide (num < last) = false := decide_eq_false hl
  have Hf := hide hf
  have Hc := hide hc
  have x0 := hV0.blk.cell (j := 0) rfl
  have x1 := hV0.blk.cell (j := 1) rfl
  have x4 := hV0.blk.cell (j := 4) rfl
  have k0 := hO.cell (j := 0) rfl
  have k1 := hO.cell (j := 1) rfl
  have k2 := hO.cell (j := 2) rfl
  have k3 := hO.cell (j := 3) rfl
  have k4 := hO.cell (j := 4) rfl
  clear hs hl hf hc
  go_enter Tryz.func104, Tryz.ntmps104
  go_wp2_with fail
  go_fit (made_any w0 v r s b z N bs vs last hV0)
  rintro x w1 ⟨rfl, rfl⟩
  go_wp2_with fail
  go_fit (serial_any num w0)
  rw [Hs.out]
  rintro x w1 ⟨rfl, rfl⟩
  go_wp2_with fail
  go_region_with (first
    | (go_at_call 147; refine (fit_any b z k p n D d dc O o oc _ hk).mono ?_; rintro x w1 ⟨hx, hb1⟩; rw [Hf.out, Hc.out] at hx; subst hx))
  all_goals
    have hV1 := hV0.drew.below hb1
    have hO1 := hO.drew.below hb1
    have hZ1 := hZ.drew.below hb1
    have hb01 := hb0.drew.trans (hb1.mono hb0.size)
    have sz1 : w0.heap.size ≤ w1.heap.size := hb1.size
    have zl := hZ.lt
    clear x0 x1 x4 k0 k1 k2 k3 k4
    have y0 := hZ1.cell (j := 0) rfl
    have y1 := hZ1.cell (j := 1) rfl
    have f0 := hZ1.frozen 0
    have f1 := hZ1.frozen 1
    have x4 := hV1.blk.cell (j := 4) rfl
    have e4 := hV1.blk.frozen 4
    go_wp2
    have hZ2 := ((hZ1.apart (k := v) (by omega) 4 (.int .i64 num)).set 0 (.int .u8 C)).set 1 (.slice none 0 0)
    refine bodyPost_ret (results_cell2 rfl rfl hZ2 Tryz.underlying40 rfl (by kernel_rfl)) rfl ?_
    refine ⟨none, 0, rfl, ⟨Rd.nil, by simp, by omega⟩, (fun a ha => by cases ha), ((hV1.setLast num).far (by omega) (by omega) (by omega) 0 _).far (by omega) (by omega) (by omega) 1 _, ?_⟩
    exact (((Upd.of_below hb01).set_v 4 _).set_far (by omega) 0 _).set_far (by omega) 1 _

set_option maxHeartbeats 3200000 in
theorem do_ok (w : World) (v r s b z N : Nat) (bs : List UInt8) (vs : List Int) (last : Int) (k : Nat) (p n : Int) (D : Option Addr) (d dc : Nat) (O : Option Addr) (o oc : Nat) (num : Int) (hk : k < 256) (h : VolIs w v r s b z N bs vs last) (hs : serB num = true) (hl : ¬ num < last) (hf : ftE b z k p n d o = 0) (hc : ftC b z k p n d o = 1) (C : Nat) (data bs' : List UInt8) (vs' : List Int)
    (HD : ∀ w1, VolIs w1 v r s b z N bs vs num → Upd v r s w w1 → Calls Tryz.prog 148 #[.pointer (some ⟨v, 0, none⟩), opv k p n D d dc O o oc, .int .i64 num] w1 (DoneIs v r s b z N C data bs' vs' num w1)) :
    Calls Tryz.prog 104 #[.pointer (some ⟨v, 0, none⟩), opv k p n D d dc O o oc, .int .i64 num] w (DoIs v r s b z N 0 C data bs' vs' num w) := by
  have HD' := hide HD
  clear HD
  obtain ⟨g, hg⟩ : ∃ g, w.heap.size = g := ⟨_, rfl⟩
  obtain ⟨w0, hw0⟩ : ∃ w0, (w.alloc (.cells #[.int .u8 k, .int .i64 p, .int .i64 n, .slice D d dc, .slice O o oc] 47)).alloc (.cells #[.int .u8 0, .slice none 0 0] 40) = w0 := ⟨_, rfl⟩
  have hO : Blk w0 g [.int .u8 k, .int .i64 p, .int .i64 n, .slice D d dc, .slice O o oc] 47 := by rw [← hw0, ← hg]; exact (Blk.new w [.int .u8 k, .int .i64 p, .int .i64 n, .slice D d dc, .slice O o oc] _).alloc _
  have hZ : Blk w0 (g + 1) [.int .u8 0, .slice none 0 0] 40 := by
    rw [← hw0, ← hg]
    have := Blk.new (w.alloc (.cells #[.int .u8 k, .int .i64 p, .int .i64 n, .slice D d dc, .slice O o oc] 47)) [.int .u8 0, .slice none 0 0] 40
    rwa [World.size_alloc] at this
  have hb0 : Below w.heap.size w w0 := by rw [← hw0]; exact ((Below.refl _ _).alloc (Nat.le_refl _) _).alloc (by simp) _
  have hV0 := h.below hb0
  have slt := h.ver.lt
  have vlt := h.blk.lt
  have rlt := h.row.lt
  have Hs := hide hs
  have hl' : decide (num < last) = false := decide_eq_false hl
  have Hf := hide hf
  have Hc := hide hc
  have x0 := hV0.blk.cell (j := 0) rfl
  have x1 := hV0.blk.cell (j := 1) rfl
  have x4 := hV0.blk.cell (j := 4) rfl
  have k0 := hO.cell (j := 0) rfl
  have k1 := hO.cell (j := 1) rfl
  have k2 := hO.cell (j := 2) rfl
  have k3 := hO.cell (j := 3) rfl
  have k4 := hO.cell (j := 4) rfl
  clear hs hl hf hc
  go_enter Tryz.func104, Tryz.ntmps104
  go_wp2_with fail
  go_fit (made_any w0 v r s b z N bs vs last hV0)
  rintro x w1 ⟨rfl, rfl⟩
  go_wp2_with fail
  go_fit (serial_any num w0)
  rw [Hs.out]
  rintro x w1 ⟨rfl, rfl⟩
  go_wp2_with fail
  go_region_with (first
    | (go_at_call 147; refine (fit_any b z k p n D d dc O o oc _ hk).mono ?_; rintro x w1 ⟨hx, hb1⟩; rw [Hf.out, Hc.out] at hx; subst hx))
  all_goals
    have hV1 := hV0.drew.below hb1
    have hO1 := hO.drew.below hb1
    have hZ1 := hZ.drew.below hb1
    have hb01 := hb0.drew.trans (hb1.mono hb0.size)
    have sz1 : w0.heap.size ≤ w1.heap.size := hb1.size
    have zl := hZ.lt
    clear x0 x1 x4 k0 k1 k2 k3 k4
    have x4 := hV1.blk.cell (j := 4) rfl
    have e4 := hV1.blk.frozen 4
    have hO2 := hO1.apart (k := v) (by omega) 4 (.int .i64 num)
    have hZ2 := hZ1.apart (k := v) (by omega) 4 (.int .i64 num)
    have hV2 := hV1.setLast num
    have hU2 := (Upd.of_below (v := v) (r := r) (s := s) hb01).set_v 4 (.int .i64 num)
    have k0 := hO1.cell (j := 0) rfl
    have k1 := hO1.cell (j := 1) rfl
    have k2 := hO1.cell (j := 2) rfl
    have k3 := hO1.cell (j := 3) rfl
    have k4 := hO1.cell (j := 4) rfl
    go_wp2_with fail
    go_fit (HD'.out _ hV2 hU2)
    rintro x w3 ⟨A, c, rfl, ⟨hA, hA2⟩, uA, hV3, g1, g2, g3, g4, g5⟩
    have szs : w1.heap.size ≤ w3.heap.size := by simpa using g1
    have hZ3 : Blk w3 (g + 1) [.int .u8 0, .slice none 0 0] 40 := (g5 (g + 1) (by simp; omega) (by omega) (by omega)).trans hZ2
    have hU3 : Upd v r s w w3 := hU2.trans ⟨g2, g3, g4, g1, fun q hq _ h2 h3 => g5 q hq h2 h3⟩
    clear x4 e4 k0 k1 k2 k3 k4
    have y0 := hZ3.cell (j := 0) rfl
    have y1 := hZ3.cell (j := 1) rfl
    have f0 := hZ3.frozen 0
    have f1 := hZ3.frozen 1
    go_wp2
    have hZ4 := (hZ3.set 0 (.int .u8 C)).set 1 (.slice A data.length c)
    refine bodyPost_ret (results_cell2 rfl rfl hZ4 Tryz.underlying40 rfl (by kernel_rfl)) rfl ?_
    have uB : ∀ a, A = some a → g + 2 ≤ a.block := fun a ha => by have := uA a ha; simp at this; omega
    refine ⟨A, c, rfl, ⟨(hA.upset (g := g + 1) uB (by omega)).upset (g := g + 1) uB (by omega), hA2⟩, (fun a ha => by have := uB a ha; omega), (hV3.far (by omega) (by omega) (by omega) 0 _).far (by omega) (by omega) (by omega) 1 _, (hU3.set_far (by omega) 0 _).set_far (by omega) 1 _⟩
end Go.Proofs.YtkknkdjdneldlaaGreat
namespace Go.Proofs.YtkknkdjdneldlaaGreat
set_option maxRecDepth 20000
open Go.RowKit Go.Px
set_option linter.unusedVariables false

theorem fit_good {b z : Nat} {k : Nat} {p n : Int} {d o : Nat} (hE : ftE b z k p n d o = 0) (hC : ftC b z k p n d o = 1) :
    0 ≤ p ∧ 0 ≤ n ∧ (k = 4 ∨ (k = 5 ∧ p < b ∧ d = z ∧ o = z) ∨ ((k = 1 ∨ k = 2 ∨ k = 3) ∧ 1 ≤ n ∧ n ≤ 64 ∧ p + n ≤ b ∧ (k = 2 → (d : Int) = n * z))) := by
  have hE' := hE
  unfold ftE at hE
  split at hE
  · rename_i h; exact absurd hE h
  · rcases fmE_two k p n d o with ⟨hp, _⟩ | hp
    · obtain ⟨⟨⟨p1, _⟩, ⟨n1, _⟩, _, _⟩, hk⟩ := hp
      refine ⟨p1, n1, ?_⟩
      unfold ftC at hC
      rw [hE', if_neg (by decide)] at hC
      by_cases h4 : k = 4
      · exact .inl h4
      · rw [if_neg h4] at hC
        by_cases h5 : k = 5
        · rw [if_pos h5] at hC
          split at hC
          · cases hC
          · split at hC
            · cases hC
            · exact .inr (.inl ⟨h5, by omega, by omega, by omega⟩)
        · rw [if_neg h5] at hC
          split at hC
          · cases hC
          · split at hC
            · cases hC
            · rename_i h6 h7
              refine .inr (.inr ⟨by omega, by omega, by omega, by omega, fun h2 => ?_⟩)
              exact Classical.not_not.1 fun hh => h7 ⟨h2, hh⟩
    · rw [hp] at hE; cases hE
theorem ftC_nat (b z : Int) (k : Nat) (p n : Int) (d o : Nat) : ∃ C : Nat, ftC b z k p n d o = C := by
  unfold ftC
  repeat' split
  all_goals first | exact ⟨0, rfl⟩ | exact ⟨1, rfl⟩ | exact ⟨2, rfl⟩ | exact ⟨3, rfl⟩
section
variable (b z : Nat) (bs : List UInt8) (vs : List Int) (last : Int) (k : Nat) (p n : Int) (ds os : List UInt8) (num : Int)
def doKE : Nat := if doE b z last k p n ds.length os.length num = 0 then doK b z bs k p n ds.length os else 0
def doDE : List UInt8 := if doE b z last k p n ds.length os.length num = 0 then doD b z bs k p n ds.length os else []
def doBE : List UInt8 := if doE b z last k p n ds.length os.length num = 0 then doB b z bs k p n ds os else bs
def doVE : List Int := if doE b z last k p n ds.length os.length num = 0 then doV b z bs vs k p n ds os num else vs
def doLE : Int := if doE b z last k p n ds.length os.length num = 0 then num else last
end
set_option maxHeartbeats 3200000 in
theorem do_any (w : World) (v r s b z N : Nat) (bs : List UInt8) (vs : List Int) (last : Int) (k : Nat) (p n : Int) (D : Option Addr) (d dc : Nat) (ds : List UInt8) (O : Option Addr) (o oc : Nat) (os : List UInt8) (num : Int) (hk : k < 256) (h : VolIs w v r s b z N bs vs last)
    (hd : ds.length = d) (ho : os.length = o) (hD : Rd w D (bys ds)) (hO : Rd w O (bys os)) (hDv : ds ≠ [] → ∀ a, D = some a → a.block ≠ v ∧ a.block ≠ r ∧ a.block ≠ s) (hOv : os ≠ [] → ∀ a, O = some a → a.block ≠ v ∧ a.block ≠ r ∧ a.block ≠ s) :
    Calls Tryz.prog 104 #[.pointer (some ⟨v, 0, none⟩), opv k p n D d dc O o oc, .int .i64 num] w
      (DoIs v r s b z N (doE b z last k p n ds.length os.length num) (doKE b z bs last k p n ds os num) (doDE b z bs last k p n ds os num) (doBE b z bs last k p n ds os num) (doVE b z bs vs last k p n ds os num) (doLE b z last k p n ds os num) w) := by
  subst hd ho
  by_cases hnum : serB num = true ∧ ¬ num < last
  · have hE0 : doE b z last k p n ds.length os.length num = ftE b z k p n ds.length os.length := by unfold doE; rw [if_pos hnum]
    by_cases hf : ftE b z k p n ds.length os.length = 0
    · have hE1 := hE0.trans hf
      unfold doKE doDE doBE doVE doLE
      simp only [hE1, if_true]
      by_cases hc : ftC b z k p n ds.length os.length = 1
      · obtain ⟨p1, n1, hg⟩ := fit_good hf hc
        obtain ⟨P, rfl⟩ := Int.eq_ofNat_of_zero_le p1
        obtain ⟨M, rfl⟩ := Int.eq_ofNat_of_zero_le n1
        have rdU : ∀ {w1 : World} {A : Option Addr} {xs : List Value}, Upd v r s w w1 → Rd w A xs → (xs ≠ [] → ∀ a, A = some a → a.block ≠ v ∧ a.block ≠ r ∧ a.block ≠ s) → Rd w1 A xs := fun {w1 A xs} hU hR hA j u hu => by
          obtain ⟨a, rfl, hcell⟩ := hR j u hu
          obtain ⟨a1, a2, a3⟩ := hA (by rintro rfl; simp at hu) a rfl
          have hlt : (a.add j).block < w.heap.size := World.block_lt_of_cell? w _ hcell
          refine ⟨a, rfl, ?_⟩
          rw [← hcell]
          unfold World.cell?
          rw [hU.blk (a.add j).block hlt (by rw [add_block]; exact a1) (by rw [add_block]; exact a2) (by rw [add_block]; exact a3)]
        rcases hg with rfl | ⟨rfl, g1, g2, g3⟩ | ⟨hkk, g1, g2, g3, g4⟩
        · refine do_ok w v r s b z N bs vs last 4 P M D _ dc O _ oc num hk h hnum.1 hnum.2 hf hc _ _ _ _ fun w1 hV hU => ?_
          have e1 : doK b z bs 4 P M ds.length os = 1 := by unfold doK; rw [if_pos hc, if_neg (by omega)]
          have e2 : doD b z bs 4 P M ds.length os = [] := by unfold doD; rw [if_pos hc, if_neg (by decide), if_neg (by omega)]
          have e3 : doW b z bs 4 P M ds.length os = false := by unfold doW; simp
          unfold doB doV
          rw [e1, e2, e3]
          exact done_flush w1 v r s b z N bs vs num P M D _ dc O _ oc num hV
        · have hP : P + 1 ≤ b := by omega
          cases hsg : (segB bs P 1 z == os) with
          | false =>
            refine do_ok w v r s b z N bs vs last 5 P M D _ dc O _ oc num hk h hnum.1 hnum.2 hf hc _ _ _ _ fun w1 hV hU => ?_
            have e1 : doK b z bs 5 P M ds.length os = 4 := by unfold doK; rw [if_pos hc, if_pos ⟨rfl, hsg⟩]
            have e2 : doD b z bs 5 P M ds.length os = segB bs P 1 z := by unfold doD; rw [if_pos hc, if_neg (by decide), if_pos ⟨rfl, hsg⟩]; rfl
            have e3 : doW b z bs 5 P M ds.length os = false := by unfold doW; simp [hsg]
            unfold doB doV
            rw [e1, e2, e3]
            exact done_swapno w1 v r s b z N bs vs num P M D _ dc O _ oc num hV os rfl (rdU hU hO (fun hh => hOv (by rintro rfl; exact hh rfl))) hP hsg
          | true =>
            refine do_ok w v r s b z N bs vs last 5 P M D _ dc O _ oc num hk h hnum.1 hnum.2 hf hc _ _ _ _ fun w1 hV hU => ?_
            have e1 : doK b z bs 5 P M ds.length os = 1 := by unfold doK; rw [if_pos hc, if_neg (by rw [Int.toNat_natCast, hsg]; simp)]
            have e2 : doD b z bs 5 P M ds.length os = [] := by unfold doD; rw [if_pos hc, if_neg (by decide), if_neg (by rw [Int.toNat_natCast, hsg]; simp)]
            have e3 : doW b z bs 5 P M ds.length os = true := by unfold doW; simp [hsg, hc]
            unfold doB doV
            rw [e1, e2, e3]
            exact done_swapyes w1 v r s b z N bs vs num P M D _ dc O _ oc num hV ds os rfl (rdU hU hD (fun hh => hDv (by rintro rfl; exact hh rfl))) (by omega) rfl (rdU hU hO (fun hh => hOv (by rintro rfl; exact hh rfl))) hP hsg
        · have hin : P + M ≤ b := by omega
          have hM : 1 ≤ M := by omega
          have e1 : doK b z bs k P M ds.length os = 1 := by unfold doK; rw [if_pos hc, if_neg (by omega)]
          rcases hkk with rfl | rfl | rfl
          · refine do_ok w v r s b z N bs vs last 1 P M D _ dc O _ oc num hk h hnum.1 hnum.2 hf hc _ _ _ _ fun w1 hV hU => ?_
            have e2 : doD b z bs 1 P M ds.length os = segB bs P M z := by unfold doD; rw [if_pos hc, if_pos rfl]; rfl
            have e3 : doW b z bs 1 P M ds.length os = false := by unfold doW; simp
            unfold doB doV
            rw [e1, e2, e3]
            exact done_read w1 v r s b z N bs vs num P M D _ dc O _ oc num hV hM hin
          · refine do_ok w v r s b z N bs vs last 2 P M D _ dc O _ oc num hk h hnum.1 hnum.2 hf hc _ _ _ _ fun w1 hV hU => ?_
            have e2 : doD b z bs 2 P M ds.length os = [] := by unfold doD; rw [if_pos hc, if_neg (by decide), if_neg (by omega)]
            have e3 : doW b z bs 2 P M ds.length os = true := by unfold doW; simp [hc]
            unfold doB doV
            rw [e1, e2, e3]
            exact done_write w1 v r s b z N bs vs num P M D _ dc O _ oc num hV ds rfl (rdU hU hD (fun hh => hDv (by rintro rfl; exact hh rfl))) (by have := g4 rfl; exact Int.ofNat.inj (by simpa using this)) hM hin
          · refine do_ok w v r s b z N bs vs last 3 P M D _ dc O _ oc num hk h hnum.1 hnum.2 hf hc _ _ _ _ fun w1 hV hU => ?_
            have e2 : doD b z bs 3 P M ds.length os = [] := by unfold doD; rw [if_pos hc, if_neg (by decide), if_neg (by omega)]
            have e3 : doW b z bs 3 P M ds.length os = true := by unfold doW; simp [hc]
            unfold doB doV
            rw [e1, e2, e3]
            exact done_trim w1 v r s b z N bs vs num P M D _ dc O _ oc num hV hM hin
      · obtain ⟨C, hC⟩ := ftC_nat b z k p n ds.length os.length
        have e1 : doK b z bs k p n ds.length os = C := by unfold doK; rw [if_neg hc, hC]; rfl
        have e2 : doD b z bs k p n ds.length os = [] := by unfold doD; rw [if_neg hc]
        have e3 : doW b z bs k p n ds.length os = false := by unfold doW; simp [hc]
        unfold doB doV
        rw [e1, e2, e3]
        exact do_badcode w v r s b z N bs vs last k p n D _ dc O _ oc num hk h hnum.1 hnum.2 C (by intro e; apply hc; rw [hC, e]; rfl) hf hC
    · have hE1 : doE b z last k p n ds.length os.length num ≠ 0 := by rw [hE0]; exact hf
      unfold doKE doDE doBE doVE doLE
      simp only [if_neg hE1]
      rw [hE0]
      exact do_badfit w v r s b z N bs vs last k p n D _ dc O _ oc num hk h hnum.1 hnum.2 _ hf rfl (ft_bad rfl hf)
  · have hE0 : doE b z last k p n ds.length os.length num = 5 := by unfold doE; rw [if_neg hnum]
    unfold doKE doDE doBE doVE doLE
    rw [hE0]
    exact do_badnum w v r s b z N bs vs last k p n D _ dc O _ oc num h hnum
end Go.Proofs.YtkknkdjdneldlaaGreat
namespace Go.Proofs.YtkknkdjdneldlaaGreat
set_option maxRecDepth 20000
open Go.RowKit Go.Px
set_option linter.unusedVariables false
/-- A pointer to no volume, or to one that is nothing but zeros. -/
def Nob (w : World) (p : Option Addr) : Prop := p = none ∨ ∃ g, p = some ⟨g, 0, none⟩ ∧ Blk w g [.int .i64 0, .int .i64 0, .slice none 0 0, .slice none 0 0, .int .i64 0] 163
theorem Nob.below {w w' : World} {p : Option Addr} (h : Nob w p) (hb : Below w.heap.size w w') : Nob w' p := by
  rcases h with h | ⟨g, rfl, hB⟩
  · exact .inl h
  · exact .inr ⟨g, rfl, hB.below hb⟩
end Go.Proofs.YtkknkdjdneldlaaGreat
namespace Go.Proofs.YtkknkdjdneldlaaGreat
set_option maxRecDepth 20000
open Go.RowKit Go.Px
set_option linter.unusedVariables false
set_option maxHeartbeats 800000 in
theorem shapeOf_any (w : World) (v r s b z N : Nat) (bs : List UInt8) (vs : List Int) (last : Int) (h : VolIs w v r s b z N bs vs last) :
    Calls Tryz.prog 53 #[.pointer (some ⟨v, 0, none⟩)] w fun e w' => e = .returned (shp b z) ∧ Below w.heap.size w w' := by
  obtain ⟨g, hg⟩ : ∃ g, w.heap.size = g := ⟨_, rfl⟩
  obtain ⟨w0, hw0⟩ : ∃ w0, w.alloc (.cells #[.int .i64 0, .int .i64 0] 23) = w0 := ⟨_, rfl⟩
  have hS : Blk w0 g [.int .i64 0, .int .i64 0] 23 := by rw [← hw0, ← hg]; exact Blk.new w [.int .i64 0, .int .i64 0] _
  have hb0 : Below w.heap.size w w0 := by rw [← hw0]; exact (Below.refl _ _).alloc (Nat.le_refl _) _
  have hV0 := h.below hb0
  have x0 := hV0.blk.cell (j := 0) rfl
  have x1 := hV0.blk.cell (j := 1) rfl
  have y0 := hS.cell (j := 0) rfl
  have y1 := hS.cell (j := 1) rfl
  have f0 := hS.frozen 0
  have f1 := hS.frozen 1
  go_enter Tryz.func53, Tryz.ntmps53
  go_wp2_with fail
  go_fit (made_any w0 v r s b z N bs vs last hV0)
  rintro x w1 ⟨rfl, rfl⟩
  go_wp2
  refine bodyPost_ret (results_cell rfl rfl ((hS.set 0 (.int .i64 b)).set 1 (.int .i64 z)) Tryz.underlying23 rfl (by kernel_rfl)) rfl ?_
  exact ⟨rfl, (hb0.setCell (by show w.heap.size ≤ g; omega) _).setCell (by show w.heap.size ≤ g; omega) _⟩
end Go.Proofs.YtkknkdjdneldlaaGreat
