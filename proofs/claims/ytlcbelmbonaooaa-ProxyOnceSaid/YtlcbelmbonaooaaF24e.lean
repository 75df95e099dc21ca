/- Stage 24: clone.Op (written by gen_24a.py). -/
import Derived.Test.YtlcbelmbonaooaaTyP
import Derived.Test.YtlcbelmbonaooaaSup18
namespace Go.Proofs.Ytlcbelmbonaooaa
set_option maxRecDepth 20000
open Go.RowKit Go.Px Go.Maps
set_option linter.unusedVariables false
set_option linter.unusedSimpArgs false
set_option maxRecDepth 20000 in
set_option maxHeartbeats 6400000 in
theorem cloneOp_any {w : World} {Q : Nat → Prop} {x : OpD} {cs : List Value} (h : tyOp.Is w Q x cs) (h8 : x.2.2.2.1.length ≤ 1099511627776) (h8' : x.2.2.2.2.length ≤ 1099511627776) :
    Calls Try.prog 56 #[.agg cs.toArray] w fun e w' => ∃ ds, e = .returned (.agg ds.toArray) ∧ tyOp.Is w' (fun b => w.heap.size ≤ b) x ds ∧ Below w.heap.size w w' := by
  obtain ⟨oKind, oAt, oN, oData, oDataA, oDatan, oDatac, oOld, oOldA, oOldn, oOldc, rfl, rfl, hu_oKind, h1_oAt, h2_oAt, h1_oN, h2_oN, hl_oData, hc_oData, hm_oData, hr_oData, hq_oData, hl_oOld, hc_oOld, hm_oOld, hr_oOld, hq_oOld⟩ := Op_out h
  simp only at h8 h8'
  rw [hl_oData] at h8
  rw [hl_oOld] at h8'
  obtain ⟨g, hg⟩ : ∃ g, w.heap.size = g := ⟨_, rfl⟩
  obtain ⟨w0, hw0⟩ : ∃ x, (w.alloc (.cells #[.int .u8 oKind, .int .i64 oAt, .int .i64 oN, .slice oDataA oDatan oDatac, .slice oOldA oOldn oOldc] 28)).alloc (.cells #[.int .u8 0, .int .i64 0, .int .i64 0, .slice none 0 0, .slice none 0 0] 28) = x := ⟨_, rfl⟩
  have hP : Blk w0 g [.int .u8 oKind, .int .i64 oAt, .int .i64 oN, .slice oDataA oDatan oDatac, .slice oOldA oOldn oOldc] 28 := by rw [← hw0, ← hg]; exact (Blk.new w [.int .u8 oKind, .int .i64 oAt, .int .i64 oN, .slice oDataA oDatan oDatac, .slice oOldA oOldn oOldc] _).alloc _
  have hZ : Blk w0 (g + 1) [.int .u8 0, .int .i64 0, .int .i64 0, .slice none 0 0, .slice none 0 0] 28 := by
    rw [← hw0, ← hg]
    have := Blk.new (w.alloc (.cells #[.int .u8 oKind, .int .i64 oAt, .int .i64 oN, .slice oDataA oDatan oDatac, .slice oOldA oOldn oOldc] 28)) [.int .u8 0, .int .i64 0, .int .i64 0, .slice none 0 0, .slice none 0 0] 28
    rwa [World.size_alloc] at this
  have hb0 : Below w.heap.size w w0 := by rw [← hw0]; exact ((Below.refl _ _).alloc (Nat.le_refl _) _).alloc (by simp) _
  have zl := hZ.lt
  have Hd := hide hl_oData
  have Ho := hide hl_oOld
  have Hw0 := hide hw0
  have y3 := hP.cell (j := 3) rfl
  clear hw0 hl_oData hl_oOld
  go_enter Try.func56, Try.ntmps56
  go_wp2_with fail
  rw [Hw0.out]
  go_fit (clone_any oDataA oDatan oDatac oData w0 Hd.out h8 (hr_oData.below hb0))
  rintro xx w1 ⟨u, rfl, ho1, hb1⟩
  obtain ⟨A1, c1, rfl, _, hc1, hcm1, hr1, ha1⟩ := own_out ho1
  have hb01 := hb0.trans (hb1.mono hb0.size)
  have sz1 := hb1.size
  have hP1 := hP.below hb1
  have f3 := hP1.frozen 3
  have x3 := hP1.cell (j := 3) rfl
  have hP2 := hP1.set 3 (.slice A1 oDatan c1)
  have hZ2 := (hZ.below hb1).apart (k := g) (by omega) 3 (.slice A1 oDatan c1)
  have hr2 := hr1.upset (j := 3) (u := .slice A1 oDatan c1) (fun a ha => (ha1 a ha).1) (show g < w0.heap.size by omega)
  have hb2 := hb01.setCell (show w.heap.size ≤ (⟨g, 3, none⟩ : Addr).block from (by show w.heap.size ≤ g; omega)) (.slice A1 oDatan c1)
  obtain ⟨wA, hwA⟩ : ∃ x, w1.setCell ⟨g, 3, none⟩ (.slice A1 oDatan c1) = x := ⟨_, rfl⟩
  have szA : wA.heap.size = w1.heap.size := by rw [← hwA]; simp
  rw [hwA] at hP2 hZ2 hr2 hb2
  have hP2 : Blk wA g [.int .u8 oKind, .int .i64 oAt, .int .i64 oN, .slice A1 oDatan c1, .slice oOldA oOldn oOldc] 28 := hP2
  clear y3
  have y4 := hP2.cell (j := 4) rfl
  rw [← hwA] at y4
  have HwA := hide hwA
  clear hwA
  go_wp2_with fail
  rw [HwA.out]
  go_fit (clone_any oOldA oOldn oOldc oOld wA Ho.out h8' (hr_oOld.below hb2))
  rintro xx w2 ⟨u, rfl, ho2, hb3⟩
  obtain ⟨A2, c2, rfl, _, hc2, hcm2, hr3, ha3⟩ := own_out ho2
  have sz2 := hb3.size
  have hP3 := hP2.below hb3
  have f4 := hP3.frozen 4
  have x4 := hP3.cell (j := 4) rfl
  have hP4 := hP3.set 4 (.slice A2 oOldn c2)
  have hZ4 := (hZ2.below hb3).apart (k := g) (by omega) 4 (.slice A2 oOldn c2)
  have hr4 := hr3.upset (j := 4) (u := .slice A2 oOldn c2) (fun a ha => (ha3 a ha).1) (show g < wA.heap.size by omega)
  have hr5 := (hr2.below hb3).upset (j := 4) (u := .slice A2 oOldn c2) (fun a ha => (ha1 a ha).1) (show g < w0.heap.size by omega)
  have hb4 := (hb2.trans (hb3.mono hb2.size)).setCell (show w.heap.size ≤ (⟨g, 4, none⟩ : Addr).block from (by show w.heap.size ≤ g; omega)) (.slice A2 oOldn c2)
  obtain ⟨wB, hwB⟩ : ∃ x, w2.setCell ⟨g, 4, none⟩ (.slice A2 oOldn c2) = x := ⟨_, rfl⟩
  rw [hwB] at hP4 hZ4 hr4 hr5 hb4
  have hP4 : Blk wB g [.int .u8 oKind, .int .i64 oAt, .int .i64 oN, .slice A1 oDatan c1, .slice A2 oOldn c2] 28 := hP4
  clear y4 x3 f3
  have HwB := hide hwB
  clear hwB
  go_wp2_with (first | (with_reducible refine stop_load 28 rfl ?_) | (with_reducible refine stop_store 28 rfl ?_))
  rw [HwB.out]
  refine go_load rfl rfl rfl hP4 Try.underlying28 rfl (by kernel_rfl) ?_
  go_wp2_with (first | (with_reducible refine stop_load 28 rfl ?_) | (with_reducible refine stop_store 28 rfl ?_))
  refine go_store rfl rfl rfl rfl rfl hZ4 (by kernel_rfl) rfl (us := [.int .u8 oKind, .int .i64 oAt, .int .i64 oN, .slice A1 oDatan c1, .slice A2 oOldn c2]) (by intro u hu; simp only [List.mem_cons, List.not_mem_nil, or_false] at hu; rcases hu with rfl | rfl | rfl | rfl | rfl <;> rfl) ?_
  go_wp2
  refine bodyPost_ret (results_cell rfl rfl (hZ4.setAll [.int .u8 oKind, .int .i64 oAt, .int .i64 oN, .slice A1 oDatan c1, .slice A2 oOldn c2]) Try.underlying28 rfl (by kernel_rfl)) rfl ?_
  have hF : Fr (fun k => k = g + 1) wB (wB.setRow (g + 1) #[.int .u8 oKind, .int .i64 oAt, .int .i64 oN, .slice A1 oDatan c1, .slice A2 oOldn c2]) := ⟨rfl, rfl, rfl, by simp [World.setRow], fun k _ hk => heap_setRow_other wB (g + 1) k _ (fun e => hk e)⟩
  have hr6 := hr5.fr hF (fun _ a ha hx => by have := (ha1 a ha).1; have hx' : a.block = g + 1 := hx; omega)
  have hr7 := hr4.fr hF (fun _ a ha hx => by have := (ha3 a ha).1; have hx' : a.block = g + 1 := hx; omega)
  refine ⟨[.int .u8 oKind, .int .i64 oAt, .int .i64 oN, .slice A1 oDatan c1, .slice A2 oOldn c2], rfl, ?_, below_setRow hb4 (by omega) _⟩
  exact Op_mk hu_oKind h1_oAt h2_oAt h1_oN h2_oN Hd.out hc1 (by unfold maxLen at hcm1; omega) hr6 (fun _ a ha => by have := (ha1 a ha).1; omega) Ho.out hc2 (by unfold maxLen at hcm2; omega) hr7 (fun _ a ha => by have := (ha3 a ha).1; omega)
end Go.Proofs.Ytlcbelmbonaooaa
