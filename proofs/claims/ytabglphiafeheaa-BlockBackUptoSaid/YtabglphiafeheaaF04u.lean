/- reader.result, whatever stands there. -/
import Derived.Test.YtabglphiafeheaaF04k
import Derived.Test.YtabglphiafeheaaF04g
namespace Go.Proofs.Ytabglphiafeheaa
open Go.RowKit Go.Px
set_option linter.unusedVariables false
set_option linter.unusedSimpArgs false
theorem blk_grown {w w' : World} {g b : Nat} {vs : List Value} {T : TypeId} (h : Blk w g vs T) (k : w.grownBy w' (some b)) (hne : g ≠ b) : Blk w' g vs T :=
  (k.block g h.lt (by intro e; injection e with e; exact hne e)).trans h
theorem rd_grown {w w' : World} {b B : Nat} {A : Option Addr} {xs : List Value} (h : Rd w A xs) (k : w.grownBy w' (some b)) (hu : Up B A) (hb : b < B) : Rd w' A xs :=
  h.grown k (fun a ha e => by injection e with e; have := hu a ha; omega)

set_option maxHeartbeats 3200000 in
theorem res_bad0 (b : Nat) (T : TypeId) (A : Option Addr) (m c : Nat) (bs : List UInt8) (k : Nat) (x : Int) (w : World) (hB : Blk w b [.slice A m c, .int .i64 0] T) (hm : bs.length = m) (hmc : m ≤ c) (hm8 : m ≤ 140737488355328) (hc : c ≤ 9223372036854775807) (hr : Rd w A (bys bs))
    (hne : ∀ a, A = some a → some a.block ≠ some b) (ex : getE bs 0 1 = x) (hx : x ≠ 0) :
    Calls Try.prog 46 #[.pointer (some ⟨b, 0, none⟩)] w (OpBad b x w) := by
  obtain ⟨w0, hw0⟩ : ∃ w0, w.alloc (.cells #[.int .u8 0, .slice none 0 0] 30) = w0 := ⟨_, rfl⟩
  have hBa : Blk w0 b [.slice A m c, .int .i64 0] T := by rw [← hw0]; exact hB.alloc _
  have Ga : w.grownBy w0 (some b) := by rw [← hw0]; exact galloc (grown_refl _ _) _
  have Hm := hide hm
  have EX := hide ex
  have NX := hide hx
  have hB0 : Blk w0.drew b [.slice A m c, .int .i64 0] T := hBa
  have hB0x : Blk (w0.alloc (.cells #[.int .u8 0, .slice none 0 0] 30)).drew b [.slice A m c, .int .i64 0] T := (hBa.alloc _).drew
  have G0 : w.grownBy w0.drew (some b) := gdrew Ga
  have G0x : w.grownBy (w0.alloc (.cells #[.int .u8 0, .slice none 0 0] 30)).drew (some b) := gdrew (galloc Ga _)
  clear hm ex hx
  go_enter Try.func46, Try.ntmps46
  go_wp2
  go_region_with (first
    | (go_at_call 51; (with_reducible refine (lnum_bad b T A m c bs 0 1 x _ (by first | exact hB0 | exact hB0x) Hm.out hmc hc (hr.grown (by first | exact G0 | exact G0x) hne) (by omega) (by omega) EX.out NX.out).mono ?_); rintro e wx ⟨rfl, KX⟩; have GX := gt (by first | exact G0 | exact G0x) KX; refine twoWays (q := wpAny Try.prog Region.Mode.any #[] (fun _ _ _ => True) 0 #[] act0 wx) ⟨rfl, rfl, GX⟩ ?_))
  all_goals trivial

set_option maxHeartbeats 3200000 in
theorem res_bad1 (b : Nat) (T : TypeId) (A : Option Addr) (m c : Nat) (bs : List UInt8) (k : Nat) (x : Int) (w : World) (hB : Blk w b [.slice A m c, .int .i64 0] T) (hm : bs.length = m) (hmc : m ≤ c) (hm8 : m ≤ 140737488355328) (hc : c ≤ 9223372036854775807) (hr : Rd w A (bys bs))
    (hne : ∀ a, A = some a → some a.block ≠ some b) (e0 : getE bs 0 1 = 0) (v0 : getV bs 0 1 = k) (i0 : getI bs 0 1 = 1) (ex : txE (textE bs 1) = x) (hx : x ≠ 0) :
    Calls Try.prog 46 #[.pointer (some ⟨b, 0, none⟩)] w (OpBad b x w) := by
  obtain ⟨w0, hw0⟩ : ∃ w0, w.alloc (.cells #[.int .u8 0, .slice none 0 0] 30) = w0 := ⟨_, rfl⟩
  have hBa : Blk w0 b [.slice A m c, .int .i64 0] T := by rw [← hw0]; exact hB.alloc _
  have Ga : w.grownBy w0 (some b) := by rw [← hw0]; exact galloc (grown_refl _ _) _
  have Hm := hide hm
  have E0 := hide e0
  have V0 := hide v0
  have I0 := hide i0
  have EX := hide ex
  have NX := hide hx
  have hB0 : Blk w0.drew b [.slice A m c, .int .i64 0] T := hBa
  have hB0x : Blk (w0.alloc (.cells #[.int .u8 0, .slice none 0 0] 30)).drew b [.slice A m c, .int .i64 0] T := (hBa.alloc _).drew
  have G0 : w.grownBy w0.drew (some b) := gdrew Ga
  have G0x : w.grownBy (w0.alloc (.cells #[.int .u8 0, .slice none 0 0] 30)).drew (some b) := gdrew (galloc Ga _)
  clear hm ex hx e0 v0 i0
  go_enter Try.func46, Try.ntmps46
  go_wp2
  go_region_with (first
    | (go_at_call 51; (with_reducible refine (lnumG b T A m c bs 0 1 k 1 _ (by first | exact hB0 | exact hB0x) Hm.out hmc hc (hr.grown (by first | exact G0 | exact G0x) hne) (by omega) (by omega) E0.out V0.out I0.out).mono ?_); rintro e w1 ⟨rfl, hB1, K1⟩; have G1 := gt (by first | exact G0 | exact G0x) K1; have hB1x := hB1.alloc (.cells #[.int .u8 0, .slice none 0 0] 30); have G1x := galloc G1 (.cells #[.int .u8 0, .slice none 0 0] 30); have L1 := hB1.lt)
    | (go_at_call 53; (with_reducible refine (ltext_bad b T A m c bs 1 x _ (by first | exact hB1 | exact hB1x) Hm.out hmc hc (hr.grown (by first | exact G1 | exact G1x) hne) (by omega) (by omega) hm8 EX.out NX.out).mono ?_); rintro e wx ⟨rfl, KX⟩; have GX := gt (by first | exact G1 | exact G1x) KX; refine twoWays (q := wpAny Try.prog Region.Mode.any #[] (fun _ _ _ => True) 0 #[] act0 wx) ⟨rfl, rfl, GX⟩ ?_))
  all_goals trivial
theorem res_one (k : Nat) (D : Option Addr) (d dc : Nat) : ∀ u ∈ ([.int .u8 k, .slice D d dc] : List Value), u.oneCell' = true := by
  intro u hu; simp at hu; rcases hu with rfl | rfl <;> rfl

def ResIs (b : Nat) (T : TypeId) (A : Option Addr) (m c : Nat) (k : Nat) (ds : List UInt8) (t1 : Int) (B : Nat) (w : World) (e : Ending) (w' : World) : Prop :=
  ∃ D dc, e = .returned (resv k D ds.length dc) ∧ Rd w' D (bys ds) ∧ Up B D ∧ Blk w' b [.slice A m c, .int .i64 t1] T ∧ Below B w w'

set_option maxHeartbeats 6400000 in
theorem res_ok (b : Nat) (T : TypeId) (A : Option Addr) (m c : Nat) (bs : List UInt8) (k : Nat) (ds : List UInt8) (t1 : Int) (B : Nat) (w : World) (hB : Blk w b [.slice A m c, .int .i64 0] T) (hm : bs.length = m) (hmc : m ≤ c) (hm8 : m ≤ 140737488355328) (hc : c ≤ 9223372036854775807) (hr : Rd w A (bys bs))
    (hne : ∀ a, A = some a → some a.block ≠ some b) (e0 : getE bs 0 1 = 0) (v0 : getV bs 0 1 = k) (i0 : getI bs 0 1 = 1) (e1 : textE bs 1 = 0) (v1 : textS bs 1 = ds) (i1 : textI bs 1 = t1) (hk : k < 256) (hBb : B ≤ b) (hf : rsE k ds.length = 0) :
    Calls Try.prog 46 #[.pointer (some ⟨b, 0, none⟩)] w (ResIs b T A m c k ds t1 B w) := by
  have hbl := hB.lt
  obtain ⟨gr, hgr⟩ : ∃ g, w.heap.size = g := ⟨_, rfl⟩
  obtain ⟨w0, hw0⟩ : ∃ w0, w.alloc (.cells #[.int .u8 0, .slice none 0 0] 30) = w0 := ⟨_, rfl⟩
  have hBa : Blk w0 b [.slice A m c, .int .i64 0] T := by rw [← hw0]; exact hB.alloc _
  have Ga : w.grownBy w0 (some b) := by rw [← hw0]; exact galloc (grown_refl _ _) _
  have hr := hr.grown Ga hne
  have hR : Blk w0 gr [.int .u8 0, .slice none 0 0] 30 := by rw [← hw0, ← hgr]; exact Blk.new w [.int .u8 0, .slice none 0 0] _
  have hgb : b < gr := by omega
  have Hm := hide hm
  have E0 := hide e0
  have V0 := hide v0
  have I0 := hide i0
  have E1 := hide e1
  have V1 := hide v1
  have I1 := hide i1
  have HF := hide hf
  have hB0 : Blk w0.drew b [.slice A m c, .int .i64 0] T := hBa
  have hB0x : Blk (w0.alloc (.cells #[.int .u8 0, .slice none 0 0] 30)).drew b [.slice A m c, .int .i64 0] T := (hBa.alloc _).drew
  have G0 : w0.grownBy w0.drew (some b) := gdrew (grown_refl _ _)
  have G0x : w0.grownBy (w0.alloc (.cells #[.int .u8 0, .slice none 0 0] 30)).drew (some b) := gdrew (galloc (grown_refl _ _) _)
  have hN0 : Blk (w0.alloc (.cells #[.int .u8 0, .slice none 0 0] 30)).drew w0.heap.size [.int .u8 0, .slice none 0 0] 30 := (Blk.new w0 [.int .u8 0, .slice none 0 0] 30).drew
  have L0 : b < w0.heap.size := hBa.lt
  have R0 : Blk w0.drew gr [.int .u8 0, .slice none 0 0] 30 := hR
  have hkw : IntKind.u8.wrap (k : Int) = (k : Int) := by rw [IntKind.wrap_u8]; omega
  clear hm e0 v0 i0 e1 v1 i1 hf
  go_enter Try.func46, Try.ntmps46
  go_wp2
  go_region_with (first
    | (go_at_call 51; (with_reducible refine (lnumG b T A m c bs 0 1 k 1 _ (by first | exact hB0 | exact hB0x) Hm.out hmc hc (hr.grown (by first | exact G0 | exact G0x) hne) (by omega) (by omega) E0.out V0.out I0.out).mono ?_); rintro e w1 ⟨rfl, hB1, K1⟩; have G1 := gt (by first | exact G0 | exact G0x) K1; have hB1x := hB1.alloc (.cells #[.int .u8 0, .slice none 0 0] 30); have G1x := galloc G1 (.cells #[.int .u8 0, .slice none 0 0] 30); have L1 := hB1.lt; have hN1 := Blk.new w1 [.int .u8 0, .slice none 0 0] 30; (first | (with_reducible (have hX := blk_grown hN0 K1 (Nat.ne_of_gt L0); have nX := Nat.ne_of_gt L0)) | (with_reducible (have hX := blk_grown hX K1 nX)) | skip))
    | (go_at_call 53; (with_reducible refine (ltextG b T A m c bs 1 t1 _ (by first | exact hB1 | exact hB1x) Hm.out hmc hc (hr.grown (by first | exact G1 | exact G1x) hne) (by omega) (by omega) hm8 ds E1.out V1.out I1.out).mono ?_); rintro e w2 ⟨D1, dc1, rfl, hO1, hB2, K2⟩; have G2 := gt (by first | exact G1 | exact G1x) K2; have hB2x := hB2.alloc (.cells #[.int .u8 0, .slice none 0 0] 30); have G2x := galloc G2 (.cells #[.int .u8 0, .slice none 0 0] 30); have L2 := hB2.lt; have hN2 := Blk.new w2 [.int .u8 0, .slice none 0 0] 30; (first | (with_reducible (have hX := blk_grown hN1 K2 (Nat.ne_of_gt L1); have nX := Nat.ne_of_gt L1)) | (with_reducible (have hX := blk_grown hX K2 nX)) | skip); (first | (have y0 := hX.cell (j := 0) rfl; have z0 := hX.frozen 0; have y1 := hX.cell (j := 1) rfl; have z1 := hX.frozen 1) | skip)))
  all_goals
    have gsz := G1.size
    have gsz2 := G2.size
    have k1 := K1.size
    have k2 := K2.size
    have r0 := hR.lt
    have R2 := blk_grown hR G2 (show gr ≠ b by omega)
    have pD := Put.of hO1
    (try simp only [szA, szD] at k1 k2 gsz gsz2 pD)
    have bW := below_of_grown (gt Ga G2) (Nat.le_of_lt hbl)
    go_wp2_with fail
    refine (result_any k D1 ds.length dc1 _ hk).mono ?_
    rintro x w6 ⟨hx, hb6⟩
    rw [HF.out] at hx
    subst hx
    have gB : Blk w6 b [.slice A m c, .int .i64 t1] T := Blk.below (by first | with_reducible exact hB2.alloc _ | with_reducible exact (hB2.apart (Ne.symm nX) 0 _).apart (Ne.symm nX) 1 _) hb6
    have gR : Blk w6 gr [.int .u8 0, .slice none 0 0] 30 := Blk.below (by first | with_reducible exact R2.alloc _ | with_reducible exact (R2.apart (by omega) 0 _).apart (by omega) 1 _) hb6
    have gD : Put w6 D1 (bys ds) _ _ := Put.below (by first | with_reducible exact pD.alloc _ | with_reducible exact (pD.set (by omega) 0 _).set (by omega) 1 _) hb6
    have gV := Blk.below (vs := [.int .u8 k, .slice D1 ds.length dc1]) (T := 30) (by first | with_reducible exact Blk.new w2 [.int .u8 k, .slice D1 ds.length dc1] _ | exact (hX.set 0 (.int .u8 k)).set 1 (.slice D1 ds.length dc1)) hb6
    have gW : Below b w w6 := Below.trans (by first | with_reducible exact bW.alloc (by omega) _ | with_reducible exact (bW.setCell (le_blk (by omega)) _).setCell (le_blk (by omega)) _) (hb6.mono (by simp; omega))
    go_wp2_with fail
    refine (stop_any _).mono ?_
    rintro x wy ⟨rfl, rfl⟩
    go_wp2_with (first | (with_reducible refine stop_load 30 rfl ?_) | (with_reducible refine stop_store 30 rfl ?_))
    refine go_load rfl rfl rfl gV Try.underlying30 rfl (by kernel_rfl) ?_
    go_wp2_with (first | (with_reducible refine stop_load 30 rfl ?_) | (with_reducible refine stop_store 30 rfl ?_))
    refine go_store rfl rfl rfl rfl rfl gR (by kernel_rfl) rfl (res_one _ _ _ _) ?_
    go_wp2_with fail
    have fD := gD.setRow (g := gr) (by omega) [.int .u8 k, .slice D1 ds.length dc1]
    refine bodyPost_ret (results_cell rfl rfl (gR.setAll [.int .u8 k, .slice D1 ds.length dc1]) Try.underlying30 rfl (by kernel_rfl)) rfl ?_
    exact ⟨D1, dc1, rfl, fD.rd, fun a ha => Nat.le_trans (by omega) (fD.at_ a ha).1, gB.apartAll (by omega) _, below_setRow (gW.mono hBb) (by omega) _⟩

set_option maxHeartbeats 6400000 in
theorem res_bad2 (b : Nat) (T : TypeId) (A : Option Addr) (m c : Nat) (bs : List UInt8) (k : Nat) (ds : List UInt8) (t1 : Int) (w : World) (hB : Blk w b [.slice A m c, .int .i64 0] T) (hm : bs.length = m) (hmc : m ≤ c) (hm8 : m ≤ 140737488355328) (hc : c ≤ 9223372036854775807) (hr : Rd w A (bys bs))
    (hne : ∀ a, A = some a → some a.block ≠ some b) (e0 : getE bs 0 1 = 0) (v0 : getV bs 0 1 = k) (i0 : getI bs 0 1 = 1) (e1 : textE bs 1 = 0) (v1 : textS bs 1 = ds) (i1 : textI bs 1 = t1) (hk : k < 256) (hf : rsE k ds.length = 42) :
    Calls Try.prog 46 #[.pointer (some ⟨b, 0, none⟩)] w (OpBadB 42 b w) := by
  have hbl := hB.lt
  obtain ⟨gr, hgr⟩ : ∃ g, w.heap.size = g := ⟨_, rfl⟩
  obtain ⟨w0, hw0⟩ : ∃ w0, w.alloc (.cells #[.int .u8 0, .slice none 0 0] 30) = w0 := ⟨_, rfl⟩
  have hBa : Blk w0 b [.slice A m c, .int .i64 0] T := by rw [← hw0]; exact hB.alloc _
  have Ga : w.grownBy w0 (some b) := by rw [← hw0]; exact galloc (grown_refl _ _) _
  have hr := hr.grown Ga hne
  have hR : Blk w0 gr [.int .u8 0, .slice none 0 0] 30 := by rw [← hw0, ← hgr]; exact Blk.new w [.int .u8 0, .slice none 0 0] _
  have hgb : b < gr := by omega
  have Hm := hide hm
  have E0 := hide e0
  have V0 := hide v0
  have I0 := hide i0
  have E1 := hide e1
  have V1 := hide v1
  have I1 := hide i1
  have HF := hide hf
  have hB0 : Blk w0.drew b [.slice A m c, .int .i64 0] T := hBa
  have hB0x : Blk (w0.alloc (.cells #[.int .u8 0, .slice none 0 0] 30)).drew b [.slice A m c, .int .i64 0] T := (hBa.alloc _).drew
  have G0 : w0.grownBy w0.drew (some b) := gdrew (grown_refl _ _)
  have G0x : w0.grownBy (w0.alloc (.cells #[.int .u8 0, .slice none 0 0] 30)).drew (some b) := gdrew (galloc (grown_refl _ _) _)
  have hN0 : Blk (w0.alloc (.cells #[.int .u8 0, .slice none 0 0] 30)).drew w0.heap.size [.int .u8 0, .slice none 0 0] 30 := (Blk.new w0 [.int .u8 0, .slice none 0 0] 30).drew
  have L0 : b < w0.heap.size := hBa.lt
  have R0 : Blk w0.drew gr [.int .u8 0, .slice none 0 0] 30 := hR
  have hkw : IntKind.u8.wrap (k : Int) = (k : Int) := by rw [IntKind.wrap_u8]; omega
  clear hm e0 v0 i0 e1 v1 i1 hf
  go_enter Try.func46, Try.ntmps46
  go_wp2
  go_region_with (first
    | (go_at_call 51; (with_reducible refine (lnumG b T A m c bs 0 1 k 1 _ (by first | exact hB0 | exact hB0x) Hm.out hmc hc (hr.grown (by first | exact G0 | exact G0x) hne) (by omega) (by omega) E0.out V0.out I0.out).mono ?_); rintro e w1 ⟨rfl, hB1, K1⟩; have G1 := gt (by first | exact G0 | exact G0x) K1; have hB1x := hB1.alloc (.cells #[.int .u8 0, .slice none 0 0] 30); have G1x := galloc G1 (.cells #[.int .u8 0, .slice none 0 0] 30); have L1 := hB1.lt; have hN1 := Blk.new w1 [.int .u8 0, .slice none 0 0] 30; (first | (with_reducible (have hX := blk_grown hN0 K1 (Nat.ne_of_gt L0); have nX := Nat.ne_of_gt L0)) | (with_reducible (have hX := blk_grown hX K1 nX)) | skip))
    | (go_at_call 53; (with_reducible refine (ltextG b T A m c bs 1 t1 _ (by first | exact hB1 | exact hB1x) Hm.out hmc hc (hr.grown (by first | exact G1 | exact G1x) hne) (by omega) (by omega) hm8 ds E1.out V1.out I1.out).mono ?_); rintro e w2 ⟨D1, dc1, rfl, hO1, hB2, K2⟩; have G2 := gt (by first | exact G1 | exact G1x) K2; have hB2x := hB2.alloc (.cells #[.int .u8 0, .slice none 0 0] 30); have G2x := galloc G2 (.cells #[.int .u8 0, .slice none 0 0] 30); have L2 := hB2.lt; have hN2 := Blk.new w2 [.int .u8 0, .slice none 0 0] 30; (first | (with_reducible (have hX := blk_grown hN1 K2 (Nat.ne_of_gt L1); have nX := Nat.ne_of_gt L1)) | (with_reducible (have hX := blk_grown hX K2 nX)) | skip); (first | (have y0 := hX.cell (j := 0) rfl; have z0 := hX.frozen 0; have y1 := hX.cell (j := 1) rfl; have z1 := hX.frozen 1) | skip)))
  all_goals
    have gsz := G1.size
    have gsz2 := G2.size
    have k1 := K1.size
    have k2 := K2.size
    have r0 := hR.lt
    have R2 := blk_grown hR G2 (show gr ≠ b by omega)
    have pD := Put.of hO1
    (try simp only [szA, szD] at k1 k2 gsz gsz2 pD)
    have bW := below_of_grown (gt Ga G2) (Nat.le_of_lt hbl)
    go_wp2_with fail
    refine (result_any k D1 ds.length dc1 _ hk).mono ?_
    rintro x w6 ⟨hx, hb6⟩
    rw [HF.out] at hx
    subst hx
    have gB : Blk w6 b [.slice A m c, .int .i64 t1] T := Blk.below (by first | with_reducible exact hB2.alloc _ | with_reducible exact (hB2.apart (Ne.symm nX) 0 _).apart (Ne.symm nX) 1 _) hb6
    have gR : Blk w6 gr [.int .u8 0, .slice none 0 0] 30 := Blk.below (by first | with_reducible exact R2.alloc _ | with_reducible exact (R2.apart (by omega) 0 _).apart (by omega) 1 _) hb6
    have gD : Put w6 D1 (bys ds) _ _ := Put.below (by first | with_reducible exact pD.alloc _ | with_reducible exact (pD.set (by omega) 0 _).set (by omega) 1 _) hb6
    have gV := Blk.below (vs := [.int .u8 k, .slice D1 ds.length dc1]) (T := 30) (by first | with_reducible exact Blk.new w2 [.int .u8 k, .slice D1 ds.length dc1] _ | exact (hX.set 0 (.int .u8 k)).set 1 (.slice D1 ds.length dc1)) hb6
    have gW : Below b w w6 := Below.trans (by first | with_reducible exact bW.alloc (by omega) _ | with_reducible exact (bW.setCell (le_blk (by omega)) _).setCell (le_blk (by omega)) _) (hb6.mono (by simp; omega))
    go_wp2_with fail
    refine (stop_bad 42 (by decide) _).mono ?_
    rintro x wy ⟨rfl, rfl⟩
    exact ⟨rfl, rfl, gW⟩
end Go.Proofs.Ytabglphiafeheaa
