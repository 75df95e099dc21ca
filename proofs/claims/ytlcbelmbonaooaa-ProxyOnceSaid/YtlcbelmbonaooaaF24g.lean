/- Stage 24: new clients (written by gen_24g.py). -/
import Derived.Test.YtlcbelmbonaooaaF24b
import Derived.Test.YtlcbelmbonaooaaF24d
import Derived.Test.YtlcbelmbonaooaaF24f
namespace Go.Px
open Go.RowKit
set_option linter.unusedVariables false
section
variable {P : Program} {w : World}
theorem Fr.row {X : Nat → Prop} {b : Nat} (hb : X b) (w : World) (us : Array Value) : Fr X w (w.setRow b us) := ⟨rfl, rfl, rfl, by simp [World.setRow], fun k _ hk => heap_setRow_other w b k _ (fun e => hk (by rw [e]; exact hb))⟩
end
/-- A new client; none. -/
def newP (id : Int) (g : GroupD) : ProxyD := (id, g, 0, 0, false, (0, 0, 0, [], []), (0, []), 0)
def noP : ProxyD := (0, (0, []), 0, 0, false, (0, 0, 0, [], []), (0, []), 0)
end Go.Px
namespace Go.Proofs.Ytlcbelmbonaooaa
set_option maxRecDepth 20000
open Go.RowKit Go.Px Go.Maps
set_option linter.unusedVariables false
set_option linter.unusedSimpArgs false
theorem noP_is {w : World} {Q : Nat → Prop} : tyProxy.Is w Q noP [.int .i64 0, .int .i64 0, .slice none 0 0, .int .i64 0, .int .i64 0, .bool false, .int .u8 0, .int .i64 0, .int .i64 0, .slice none 0 0, .slice none 0 0, .int .i64 0, .slice none 0 0, .int .i64 0] := Proxy_mk (by omega) (by omega) (by omega) (by omega) rfl (by omega) (by omega) Rd.nil (fun hn => absurd rfl hn) (i64rows_mk (by intro x hx; cases hx)) (by omega) (by omega) (by omega) (by omega) (by decide) (by omega) (by omega) (by omega) (by omega) rfl (by omega) (by omega) Rd.nil (fun hn => absurd rfl hn) rfl (by omega) (by omega) Rd.nil (fun hn => absurd rfl hn) (by omega) (by omega) rfl (by omega) (by omega) Rd.nil (fun hn => absurd rfl hn) (i64rows_mk (by intro x hx; cases hx)) (by omega) (by omega)
set_option maxRecDepth 20000 in
set_option maxHeartbeats 12800000 in
theorem mprN_any {w : World} {Q : Nat → Prop} {id : Int} {x : GroupD} {cs : List Value} (h1 : -9223372036854775808 ≤ id) (h2 : id ≤ 9223372036854775807) (h : tyGroup.Is w Q x cs) (h8 : x.2.length ≤ 1099511627776) :
    Calls Try.prog 10 #[.int .i64 id, .agg cs.toArray] w fun e w' => ∃ ds, e = .returned (.tuple #[.agg ds.toArray, .int .i64 (prE (newP id x))]) ∧ tyProxy.Is w' (fun b => w.heap.size ≤ b) (if prB (newP id x) = true then newP id x else noP) ds ∧ Below w.heap.size w w' := by
  obtain ⟨gEpoch, gMembers, gMembersA, gMembersn, gMembersc, gMembersv, rfl, rfl, h1_gEpoch, h2_gEpoch, hl_gMembers, hc_gMembers, hm_gMembers, hr_gMembers, hq_gMembers, he_gMembers⟩ := Group_out h
  obtain ⟨g, hg⟩ : ∃ g, w.heap.size = g := ⟨_, rfl⟩
  have hN0 : tyProxy.Is w Q (newP id (gEpoch, gMembers)) [.int .i64 id, .int .i64 gEpoch, .slice gMembersA gMembersn gMembersc, .int .i64 0, .int .i64 0, .bool false, .int .u8 0, .int .i64 0, .int .i64 0, .slice none 0 0, .slice none 0 0, .int .i64 0, .slice none 0 0, .int .i64 0] := Proxy_mk h1 h2 h1_gEpoch h2_gEpoch hl_gMembers hc_gMembers hm_gMembers hr_gMembers hq_gMembers he_gMembers (by omega) (by omega) (by omega) (by omega) (by decide) (by omega) (by omega) (by omega) (by omega) rfl (by omega) (by omega) Rd.nil (fun hn => absurd rfl hn) rfl (by omega) (by omega) Rd.nil (fun hn => absurd rfl hn) (by omega) (by omega) rfl (by omega) (by omega) Rd.nil (fun hn => absurd rfl hn) (i64rows_mk (by intro x hx; cases hx)) (by omega) (by omega)
  simp only at h8
  obtain ⟨w0, hw0⟩ : ∃ x, (w.alloc (.cells #[.int .i64 gEpoch, .slice gMembersA gMembersn gMembersc] 24)).alloc (.cells #[.int .i64 0, .int .i64 0, .slice none 0 0, .int .i64 0, .int .i64 0, .bool false, .int .u8 0, .int .i64 0, .int .i64 0, .slice none 0 0, .slice none 0 0, .int .i64 0, .slice none 0 0, .int .i64 0] 30) = x := ⟨_, rfl⟩
  have hG : Blk w0 g [.int .i64 gEpoch, .slice gMembersA gMembersn gMembersc] 24 := by rw [← hw0, ← hg]; exact (Blk.new w [.int .i64 gEpoch, .slice gMembersA gMembersn gMembersc] _).alloc _
  have hR : Blk w0 (g + 1) [.int .i64 0, .int .i64 0, .slice none 0 0, .int .i64 0, .int .i64 0, .bool false, .int .u8 0, .int .i64 0, .int .i64 0, .slice none 0 0, .slice none 0 0, .int .i64 0, .slice none 0 0, .int .i64 0] 30 := by
    rw [← hw0, ← hg]
    have := Blk.new (w.alloc (.cells #[.int .i64 gEpoch, .slice gMembersA gMembersn gMembersc] 24)) [.int .i64 0, .int .i64 0, .slice none 0 0, .int .i64 0, .int .i64 0, .bool false, .int .u8 0, .int .i64 0, .int .i64 0, .slice none 0 0, .slice none 0 0, .int .i64 0, .slice none 0 0, .int .i64 0] 30
    rwa [World.size_alloc] at this
  have b0 : Below w.heap.size w w0 := by rw [← hw0]; exact ((Below.refl _ _).alloc (Nat.le_refl _) _).alloc (by simp) _
  have rl := hR.lt
  have s0 := b0.size
  have Hw0 := hide hw0
  clear hw0

  have Hcl := hide (fun W (hW : Below w.heap.size w W) => cloneProxy_any (hN0.below hW) h8 (by show 0 ≤ _; omega) (by show 0 ≤ _; omega) (by show 0 ≤ _; omega))
  clear hN0 h8 hl_gMembers hr_gMembers hq_gMembers he_gMembers h1 h2
  go_enter Try.func10, Try.ntmps10
  go_wp2_with (first | (with_reducible refine stop_load 24 rfl ?_) | (with_reducible refine stop_load 28 rfl ?_) | (with_reducible refine stop_load 30 rfl ?_) | (with_reducible refine stop_store 24 rfl ?_) | (with_reducible refine stop_store 28 rfl ?_) | (with_reducible refine stop_store 30 rfl ?_))
  rw [Hw0.out]
  refine go_load rfl rfl rfl hG Try.underlying24 rfl (by kernel_rfl) ?_
  go_wp2_with (first | (with_reducible refine stop_load 24 rfl ?_) | (with_reducible refine stop_load 28 rfl ?_) | (with_reducible refine stop_load 30 rfl ?_) | (with_reducible refine stop_store 24 rfl ?_) | (with_reducible refine stop_store 28 rfl ?_) | (with_reducible refine stop_store 30 rfl ?_))
  go_fit (Hcl.out w0 b0)
  rintro xx w1 ⟨ds, rfl, iD, hd1⟩
  have hdl : ds.length = 14 := iD.len
  have s1 := hd1.size
  have b1 := b0.trans (hd1.mono s0)
  have hR1 := hR.below hd1
  obtain ⟨m, hm⟩ : ∃ m, w1.heap.size = m := ⟨_, rfl⟩
  obtain ⟨w2, hw2⟩ : ∃ x, w1.alloc (.cells #[.int .i64 0, .int .i64 0, .slice none 0 0, .int .i64 0, .int .i64 0, .bool false, .int .u8 0, .int .i64 0, .int .i64 0, .slice none 0 0, .slice none 0 0, .int .i64 0, .slice none 0 0, .int .i64 0] 30) = x := ⟨_, rfl⟩
  have hL2 : Blk w2 m [.int .i64 0, .int .i64 0, .slice none 0 0, .int .i64 0, .int .i64 0, .bool false, .int .u8 0, .int .i64 0, .int .i64 0, .slice none 0 0, .slice none 0 0, .int .i64 0, .slice none 0 0, .int .i64 0] 30 := by rw [← hw2, ← hm]; exact Blk.new w1 [.int .i64 0, .int .i64 0, .slice none 0 0, .int .i64 0, .int .i64 0, .bool false, .int .u8 0, .int .i64 0, .int .i64 0, .slice none 0 0, .slice none 0 0, .int .i64 0, .slice none 0 0, .int .i64 0] _

  have b2 : Below w.heap.size w w2 := by rw [← hw2]; exact b1.alloc (by omega) _
  have hb12 : Below w1.heap.size w1 w2 := by rw [← hw2]; exact (Below.refl _ _).alloc (Nat.le_refl _) _
  have Hw2 := hide hw2
  clear hw2
  go_wp2_with (first | (with_reducible refine stop_load 24 rfl ?_) | (with_reducible refine stop_load 28 rfl ?_) | (with_reducible refine stop_load 30 rfl ?_) | (with_reducible refine stop_store 24 rfl ?_) | (with_reducible refine stop_store 28 rfl ?_) | (with_reducible refine stop_store 30 rfl ?_))
  rw [Hw2.out]
  first | rw [hm] | skip
  refine go_store rfl rfl rfl rfl rfl hL2 (by rw [hdl]; kernel_rfl) (by rw [hdl]; rfl) (us := ds) iD.ones ?_
  obtain ⟨w3, hw3⟩ : ∃ x, w2.setRow m ds.toArray = x := ⟨_, rfl⟩
  have hF3 : Fr (fun b => b = m) w2 w3 := by rw [← hw3]; exact Fr.row (X := fun b => b = m) rfl w2 ds.toArray
  have hL3 : Blk w3 m ds 30 := by rw [← hw3]; exact hL2.setAll ds
  have iD3 := (iD.here.below hb12).fr hF3 (fun b hb hx => by have hx' : b = m := hx; have := hb.2; omega)
  have hR3 := (hR1.below hb12).fr hF3 (by omega)
  have b3 := hF3.below b2 b2.size (fun b hb => by have hb' : b = m := hb; omega)
  have s3 := b3.size
  have s23 := hF3.size
  have s12 := hb12.size
  rw [hw3]
  clear hw3
  go_wp2_with (first | (with_reducible refine stop_load 24 rfl ?_) | (with_reducible refine stop_load 28 rfl ?_) | (with_reducible refine stop_load 30 rfl ?_) | (with_reducible refine stop_store 24 rfl ?_) | (with_reducible refine stop_store 28 rfl ?_) | (with_reducible refine stop_store 30 rfl ?_))
  refine go_load rfl rfl rfl hL3 Try.underlying30 rfl (by rw [hdl]; kernel_rfl) ?_
  go_wp2_with (first | (with_reducible refine stop_load 24 rfl ?_) | (with_reducible refine stop_load 28 rfl ?_) | (with_reducible refine stop_load 30 rfl ?_) | (with_reducible refine stop_store 24 rfl ?_) | (with_reducible refine stop_store 28 rfl ?_) | (with_reducible refine stop_store 30 rfl ?_))
  go_fit (mprC_any iD3)
  rintro xx w4 ⟨rfl, hd4⟩
  have b4 := b3.trans (hd4.mono s3)
  have s4 := hd4.size
  have hL4 := hL3.below hd4
  have hR4 := hR3.below hd4
  rcases bool_two (prB (newP id (gEpoch, gMembers))) with q | q
  · rw [prE_ok q]
    go_wp2_with (first | (with_reducible refine stop_load 24 rfl ?_) | (with_reducible refine stop_load 28 rfl ?_) | (with_reducible refine stop_load 30 rfl ?_) | (with_reducible refine stop_store 24 rfl ?_) | (with_reducible refine stop_store 28 rfl ?_) | (with_reducible refine stop_store 30 rfl ?_))
    refine go_load rfl rfl rfl hL4 Try.underlying30 rfl (by rw [hdl]; kernel_rfl) ?_
    go_wp2_with (first | (with_reducible refine stop_load 24 rfl ?_) | (with_reducible refine stop_load 28 rfl ?_) | (with_reducible refine stop_load 30 rfl ?_) | (with_reducible refine stop_store 24 rfl ?_) | (with_reducible refine stop_store 28 rfl ?_) | (with_reducible refine stop_store 30 rfl ?_))
    refine go_store rfl rfl rfl rfl rfl hR4 (by rw [hdl]; kernel_rfl) (by rw [hdl]; rfl) (us := ds) iD.ones ?_
    go_wp2
    all_goals (
      refine bodyPost_ret (results_cell2 rfl rfl (hR4.setAll ds) Try.underlying30 rfl (by rw [hdl]; kernel_rfl)) rfl ?_
      have hF := Fr.row (X := fun b => b = g + 1) rfl w4 (ds).toArray
      refine ⟨ds, by first | rfl | (rw [prE_ok q]; rfl), ?_, hF.below (by first | exact b4 | (rw [← hg]; exact b4)) (by omega) (fun b hb => by have hb' : b = g + 1 := hb; omega)⟩
      try rw [if_pos q]
      exact ((iD3.below hd4).fr hF (fun b hb hx => by have hx2 : b = g + 1 := hx; have h3 : w0.heap.size ≤ b := hb.1; omega)).mono (fun b hb => by have h3 : w0.heap.size ≤ b := hb.1; first | (show w.heap.size ≤ b; omega) | (show g ≤ b; omega)))
  · rw [prE_no q]
    go_wp2_with (first | (with_reducible refine stop_load 24 rfl ?_) | (with_reducible refine stop_load 28 rfl ?_) | (with_reducible refine stop_load 30 rfl ?_) | (with_reducible refine stop_store 24 rfl ?_) | (with_reducible refine stop_store 28 rfl ?_) | (with_reducible refine stop_store 30 rfl ?_))


    refine go_store rfl rfl rfl rfl rfl hR4 (by kernel_rfl) rfl (us := [.int .i64 0, .int .i64 0, .slice none 0 0, .int .i64 0, .int .i64 0, .bool false, .int .u8 0, .int .i64 0, .int .i64 0, .slice none 0 0, .slice none 0 0, .int .i64 0, .slice none 0 0, .int .i64 0]) (noP_is (w := w) (Q := fun _ => True)).ones ?_
    go_wp2
    all_goals (
      refine bodyPost_ret (results_cell2 rfl rfl (hR4.setAll [.int .i64 0, .int .i64 0, .slice none 0 0, .int .i64 0, .int .i64 0, .bool false, .int .u8 0, .int .i64 0, .int .i64 0, .slice none 0 0, .slice none 0 0, .int .i64 0, .slice none 0 0, .int .i64 0]) Try.underlying30 rfl (by kernel_rfl)) rfl ?_
      have hF := Fr.row (X := fun b => b = g + 1) rfl w4 ([.int .i64 0, .int .i64 0, .slice none 0 0, .int .i64 0, .int .i64 0, .bool false, .int .u8 0, .int .i64 0, .int .i64 0, .slice none 0 0, .slice none 0 0, .int .i64 0, .slice none 0 0, .int .i64 0]).toArray
      refine ⟨[.int .i64 0, .int .i64 0, .slice none 0 0, .int .i64 0, .int .i64 0, .bool false, .int .u8 0, .int .i64 0, .int .i64 0, .slice none 0 0, .slice none 0 0, .int .i64 0, .slice none 0 0, .int .i64 0], by first | rfl | (rw [prE_no q]; rfl), ?_, hF.below (by first | exact b4 | (rw [← hg]; exact b4)) (by omega) (fun b hb => by have hb' : b = g + 1 := hb; omega)⟩
      try rw [if_neg (by rw [q]; exact Bool.false_ne_true)]
      exact noP_is)

set_option maxRecDepth 20000 in
set_option maxHeartbeats 12800000 in
theorem rprN_any {w : World} {Q : Nat → Prop} {id : Int} {x : GroupD} {cs : List Value} (h1 : -9223372036854775808 ≤ id) (h2 : id ≤ 9223372036854775807) (h : tyGroup.Is w Q x cs) :
    Calls Try.prog 11 #[.int .i64 id, .agg cs.toArray] w fun e w' => ∃ ds, e = .returned (.tuple #[.agg ds.toArray, .int .i64 (prE (newP id x))]) ∧ tyProxy.Is w' (fun b => Q b ∨ w.heap.size ≤ b) (if prB (newP id x) = true then newP id x else noP) ds ∧ Below w.heap.size w w' := by
  obtain ⟨gEpoch, gMembers, gMembersA, gMembersn, gMembersc, gMembersv, rfl, rfl, h1_gEpoch, h2_gEpoch, hl_gMembers, hc_gMembers, hm_gMembers, hr_gMembers, hq_gMembers, he_gMembers⟩ := Group_out h
  obtain ⟨g, hg⟩ : ∃ g, w.heap.size = g := ⟨_, rfl⟩
  have hN0 : tyProxy.Is w Q (newP id (gEpoch, gMembers)) [.int .i64 id, .int .i64 gEpoch, .slice gMembersA gMembersn gMembersc, .int .i64 0, .int .i64 0, .bool false, .int .u8 0, .int .i64 0, .int .i64 0, .slice none 0 0, .slice none 0 0, .int .i64 0, .slice none 0 0, .int .i64 0] := Proxy_mk h1 h2 h1_gEpoch h2_gEpoch hl_gMembers hc_gMembers hm_gMembers hr_gMembers hq_gMembers he_gMembers (by omega) (by omega) (by omega) (by omega) (by decide) (by omega) (by omega) (by omega) (by omega) rfl (by omega) (by omega) Rd.nil (fun hn => absurd rfl hn) rfl (by omega) (by omega) Rd.nil (fun hn => absurd rfl hn) (by omega) (by omega) rfl (by omega) (by omega) Rd.nil (fun hn => absurd rfl hn) (i64rows_mk (by intro x hx; cases hx)) (by omega) (by omega)
  obtain ⟨w0, hw0⟩ : ∃ x, (w.alloc (.cells #[.int .i64 gEpoch, .slice gMembersA gMembersn gMembersc] 24)).alloc (.cells #[.int .i64 0, .int .i64 0, .slice none 0 0, .int .i64 0, .int .i64 0, .bool false, .int .u8 0, .int .i64 0, .int .i64 0, .slice none 0 0, .slice none 0 0, .int .i64 0, .slice none 0 0, .int .i64 0] 30) = x := ⟨_, rfl⟩
  have hG : Blk w0 g [.int .i64 gEpoch, .slice gMembersA gMembersn gMembersc] 24 := by rw [← hw0, ← hg]; exact (Blk.new w [.int .i64 gEpoch, .slice gMembersA gMembersn gMembersc] _).alloc _
  have hR : Blk w0 (g + 1) [.int .i64 0, .int .i64 0, .slice none 0 0, .int .i64 0, .int .i64 0, .bool false, .int .u8 0, .int .i64 0, .int .i64 0, .slice none 0 0, .slice none 0 0, .int .i64 0, .slice none 0 0, .int .i64 0] 30 := by
    rw [← hw0, ← hg]
    have := Blk.new (w.alloc (.cells #[.int .i64 gEpoch, .slice gMembersA gMembersn gMembersc] 24)) [.int .i64 0, .int .i64 0, .slice none 0 0, .int .i64 0, .int .i64 0, .bool false, .int .u8 0, .int .i64 0, .int .i64 0, .slice none 0 0, .slice none 0 0, .int .i64 0, .slice none 0 0, .int .i64 0] 30
    rwa [World.size_alloc] at this
  have b0 : Below w.heap.size w w0 := by rw [← hw0]; exact ((Below.refl _ _).alloc (Nat.le_refl _) _).alloc (by simp) _
  have rl := hR.lt
  have s0 := b0.size
  have Hw0 := hide hw0
  clear hw0

  obtain ⟨m, hm⟩ : ∃ m, w0.heap.size = m := ⟨_, rfl⟩
  obtain ⟨w2, hw2⟩ : ∃ x, w0.alloc (.cells #[.int .i64 0, .int .i64 0, .slice none 0 0, .int .i64 0, .int .i64 0, .bool false, .int .u8 0, .int .i64 0, .int .i64 0, .slice none 0 0, .slice none 0 0, .int .i64 0, .slice none 0 0, .int .i64 0] 30) = x := ⟨_, rfl⟩
  have hL2 : Blk w2 m [.int .i64 0, .int .i64 0, .slice none 0 0, .int .i64 0, .int .i64 0, .bool false, .int .u8 0, .int .i64 0, .int .i64 0, .slice none 0 0, .slice none 0 0, .int .i64 0, .slice none 0 0, .int .i64 0] 30 := by rw [← hw2, ← hm]; exact Blk.new w0 [.int .i64 0, .int .i64 0, .slice none 0 0, .int .i64 0, .int .i64 0, .bool false, .int .u8 0, .int .i64 0, .int .i64 0, .slice none 0 0, .slice none 0 0, .int .i64 0, .slice none 0 0, .int .i64 0] _

  have b2 : Below w.heap.size w w2 := by rw [← hw2]; exact b0.alloc (by omega) _
  have hb12 : Below w0.heap.size w0 w2 := by rw [← hw2]; exact (Below.refl _ _).alloc (Nat.le_refl _) _
  have Hw2 := hide hw2
  have hN2 := hN0.here.below b2
  have hdl : ([.int .i64 id, .int .i64 gEpoch, .slice gMembersA gMembersn gMembersc, .int .i64 0, .int .i64 0, .bool false, .int .u8 0, .int .i64 0, .int .i64 0, .slice none 0 0, .slice none 0 0, .int .i64 0, .slice none 0 0, .int .i64 0] : List Value).length = 14 := rfl
  clear hw2 hN0 hl_gMembers hr_gMembers hq_gMembers he_gMembers h1 h2
  go_enter Try.func11, Try.ntmps11
  go_wp2_with (first | (with_reducible refine stop_load 24 rfl ?_) | (with_reducible refine stop_load 28 rfl ?_) | (with_reducible refine stop_load 30 rfl ?_) | (with_reducible refine stop_store 24 rfl ?_) | (with_reducible refine stop_store 28 rfl ?_) | (with_reducible refine stop_store 30 rfl ?_))
  rw [Hw0.out]
  refine go_load rfl rfl rfl hG Try.underlying24 rfl (by kernel_rfl) ?_
  go_wp2_with (first | (with_reducible refine stop_load 24 rfl ?_) | (with_reducible refine stop_load 28 rfl ?_) | (with_reducible refine stop_load 30 rfl ?_) | (with_reducible refine stop_store 24 rfl ?_) | (with_reducible refine stop_store 28 rfl ?_) | (with_reducible refine stop_store 30 rfl ?_))
  rw [Hw2.out]
  first | rw [hm] | skip
  refine go_store rfl rfl rfl rfl rfl hL2 (by kernel_rfl) rfl (us := [.int .i64 id, .int .i64 gEpoch, .slice gMembersA gMembersn gMembersc, .int .i64 0, .int .i64 0, .bool false, .int .u8 0, .int .i64 0, .int .i64 0, .slice none 0 0, .slice none 0 0, .int .i64 0, .slice none 0 0, .int .i64 0]) hN2.ones ?_
  obtain ⟨w3, hw3⟩ : ∃ x, w2.setRow m #[.int .i64 id, .int .i64 gEpoch, .slice gMembersA gMembersn gMembersc, .int .i64 0, .int .i64 0, .bool false, .int .u8 0, .int .i64 0, .int .i64 0, .slice none 0 0, .slice none 0 0, .int .i64 0, .slice none 0 0, .int .i64 0] = x := ⟨_, rfl⟩
  have hF3 : Fr (fun b => b = m) w2 w3 := by rw [← hw3]; exact Fr.row (X := fun b => b = m) rfl w2 _
  have hL3 : Blk w3 m [.int .i64 id, .int .i64 gEpoch, .slice gMembersA gMembersn gMembersc, .int .i64 0, .int .i64 0, .bool false, .int .u8 0, .int .i64 0, .int .i64 0, .slice none 0 0, .slice none 0 0, .int .i64 0, .slice none 0 0, .int .i64 0] 30 := by rw [← hw3]; exact hL2.setAll [.int .i64 id, .int .i64 gEpoch, .slice gMembersA gMembersn gMembersc, .int .i64 0, .int .i64 0, .bool false, .int .u8 0, .int .i64 0, .int .i64 0, .slice none 0 0, .slice none 0 0, .int .i64 0, .slice none 0 0, .int .i64 0]
  have iD3 := hN2.fr hF3 (fun b hb hx => by have hx' : b = m := hx; have := hb.2; omega)
  have hR3 := (hR.below hb12).fr hF3 (by omega)
  have b3 := hF3.below b2 b2.size (fun b hb => by have hb' : b = m := hb; omega)
  have s3 := b3.size
  have s23 := hF3.size
  have s12 := hb12.size
  have Hw3 := hide hw3
  clear hw3
  go_wp2_with (first | (with_reducible refine stop_load 24 rfl ?_) | (with_reducible refine stop_load 28 rfl ?_) | (with_reducible refine stop_load 30 rfl ?_) | (with_reducible refine stop_store 24 rfl ?_) | (with_reducible refine stop_store 28 rfl ?_) | (with_reducible refine stop_store 30 rfl ?_))
  rw [Hw3.out]
  refine go_load rfl rfl rfl hL3 Try.underlying30 rfl (by kernel_rfl) ?_
  go_wp2_with (first | (with_reducible refine stop_load 24 rfl ?_) | (with_reducible refine stop_load 28 rfl ?_) | (with_reducible refine stop_load 30 rfl ?_) | (with_reducible refine stop_store 24 rfl ?_) | (with_reducible refine stop_store 28 rfl ?_) | (with_reducible refine stop_store 30 rfl ?_))
  go_fit (rprC_any iD3)
  rintro xx w4 ⟨rfl, hd4⟩
  have b4 := b3.trans (hd4.mono s3)
  have s4 := hd4.size
  have hL4 := hL3.below hd4
  have hR4 := hR3.below hd4
  have iD := iD3
  rcases bool_two (prB (newP id (gEpoch, gMembers))) with q | q
  · rw [prE_ok q]
    go_wp2_with (first | (with_reducible refine stop_load 24 rfl ?_) | (with_reducible refine stop_load 28 rfl ?_) | (with_reducible refine stop_load 30 rfl ?_) | (with_reducible refine stop_store 24 rfl ?_) | (with_reducible refine stop_store 28 rfl ?_) | (with_reducible refine stop_store 30 rfl ?_))
    refine go_load rfl rfl rfl hL4 Try.underlying30 rfl (by kernel_rfl) ?_
    go_wp2_with (first | (with_reducible refine stop_load 24 rfl ?_) | (with_reducible refine stop_load 28 rfl ?_) | (with_reducible refine stop_load 30 rfl ?_) | (with_reducible refine stop_store 24 rfl ?_) | (with_reducible refine stop_store 28 rfl ?_) | (with_reducible refine stop_store 30 rfl ?_))
    refine go_store rfl rfl rfl rfl rfl hR4 (by kernel_rfl) (by rw [hdl]; rfl) (us := [.int .i64 id, .int .i64 gEpoch, .slice gMembersA gMembersn gMembersc, .int .i64 0, .int .i64 0, .bool false, .int .u8 0, .int .i64 0, .int .i64 0, .slice none 0 0, .slice none 0 0, .int .i64 0, .slice none 0 0, .int .i64 0]) iD.ones ?_
    go_wp2
    all_goals (
      refine bodyPost_ret (results_cell2 rfl rfl (hR4.setAll [.int .i64 id, .int .i64 gEpoch, .slice gMembersA gMembersn gMembersc, .int .i64 0, .int .i64 0, .bool false, .int .u8 0, .int .i64 0, .int .i64 0, .slice none 0 0, .slice none 0 0, .int .i64 0, .slice none 0 0, .int .i64 0]) Try.underlying30 rfl (by kernel_rfl)) rfl ?_
      have hF := Fr.row (X := fun b => b = g + 1) rfl w4 ([.int .i64 id, .int .i64 gEpoch, .slice gMembersA gMembersn gMembersc, .int .i64 0, .int .i64 0, .bool false, .int .u8 0, .int .i64 0, .int .i64 0, .slice none 0 0, .slice none 0 0, .int .i64 0, .slice none 0 0, .int .i64 0] : List Value).toArray
      refine ⟨[.int .i64 id, .int .i64 gEpoch, .slice gMembersA gMembersn gMembersc, .int .i64 0, .int .i64 0, .bool false, .int .u8 0, .int .i64 0, .int .i64 0, .slice none 0 0, .slice none 0 0, .int .i64 0, .slice none 0 0, .int .i64 0], by first | rfl | (rw [prE_ok q]; rfl), ?_, hF.below (by first | exact b4 | (rw [← hg]; exact b4)) (by omega) (fun b hb => by have hb' : b = g + 1 := hb; omega)⟩
      try rw [if_pos q]
      exact ((iD3.below hd4).fr hF (fun b hb hx => by have hx2 : b = g + 1 := hx; have h3 := hb.2; omega)).mono (fun b hb => Or.inl hb.1))
  · rw [prE_no q]
    go_wp2_with (first | (with_reducible refine stop_load 24 rfl ?_) | (with_reducible refine stop_load 28 rfl ?_) | (with_reducible refine stop_load 30 rfl ?_) | (with_reducible refine stop_store 24 rfl ?_) | (with_reducible refine stop_store 28 rfl ?_) | (with_reducible refine stop_store 30 rfl ?_))


    refine go_store rfl rfl rfl rfl rfl hR4 (by kernel_rfl) rfl (us := [.int .i64 0, .int .i64 0, .slice none 0 0, .int .i64 0, .int .i64 0, .bool false, .int .u8 0, .int .i64 0, .int .i64 0, .slice none 0 0, .slice none 0 0, .int .i64 0, .slice none 0 0, .int .i64 0]) (noP_is (w := w) (Q := fun _ => True)).ones ?_
    go_wp2
    all_goals (
      refine bodyPost_ret (results_cell2 rfl rfl (hR4.setAll [.int .i64 0, .int .i64 0, .slice none 0 0, .int .i64 0, .int .i64 0, .bool false, .int .u8 0, .int .i64 0, .int .i64 0, .slice none 0 0, .slice none 0 0, .int .i64 0, .slice none 0 0, .int .i64 0]) Try.underlying30 rfl (by kernel_rfl)) rfl ?_
      have hF := Fr.row (X := fun b => b = g + 1) rfl w4 ([.int .i64 0, .int .i64 0, .slice none 0 0, .int .i64 0, .int .i64 0, .bool false, .int .u8 0, .int .i64 0, .int .i64 0, .slice none 0 0, .slice none 0 0, .int .i64 0, .slice none 0 0, .int .i64 0]).toArray
      refine ⟨[.int .i64 0, .int .i64 0, .slice none 0 0, .int .i64 0, .int .i64 0, .bool false, .int .u8 0, .int .i64 0, .int .i64 0, .slice none 0 0, .slice none 0 0, .int .i64 0, .slice none 0 0, .int .i64 0], by first | rfl | (rw [prE_no q]; rfl), ?_, hF.below (by first | exact b4 | (rw [← hg]; exact b4)) (by omega) (fun b hb => by have hb' : b = g + 1 := hb; omega)⟩
      try rw [if_neg (by rw [q]; exact Bool.false_ne_true)]
      exact noP_is)

end Go.Proofs.Ytlcbelmbonaooaa
