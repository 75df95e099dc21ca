/- Stage 24: a tick, as the document says (written by gen_24ad.py). -/
import Derived.Test.YtlcbelmbonaooaaF24s
import Derived.Test.YtlcbelmbonaooaaF24d
import Derived.Test.YtlcbelmbonaooaaOrd
namespace Go.Proofs.Ytlcbelmbonaooaa
set_option maxRecDepth 20000
open Go.RowKit Go.Px Go.Maps Go.Deep
set_option linter.unusedVariables false
set_option linter.unusedSimpArgs false
/-- What a tick makes. -/
def nextQ (q : Int) : Int := if q < 4611686018427387904 then q + 1 else 4611686018427387904
def tickD : ProxyD → ProxyD × List MsgD
  | (id, g, v, se, bu, o, n, qu) => if prB (id, g, v, se, bu, o, n, qu) = false then ((id, g, v, se, bu, o, n, qu), []) else if bu = false then ((id, g, v, se, bu, o, n, qu), []) else
      ((id, g, v, se, bu, o, n, nextQ qu), if (nextQ qu % 4 == 0) = true then g.2.map (reqD (id, g, v, se, bu, o, n, nextQ qu)) else [])
def TickIs (w w' : World) (Q : Nat → Prop) (r : ProxyD × List MsgD) (e : Ending) : Prop :=
  ∃ ds A n c, e = .returned (.tuple #[.agg ds.toArray, .slice A n c]) ∧ tyProxy.Is w' Q r.1 ds ∧ (Ty.row tyMsg).Is w' Q r.2 [.slice A n c] ∧ Below w.heap.size w w'
theorem slTM : SlT Try.prog 39 58 28 352 := slT_mk (z := .agg #[.int .u8 0, .int .i64 0, .int .i64 0, .int .i64 0, .int .i64 0, .int .i64 0, .int .i64 0, .int .i64 0, .int .u64 0, .int .i64 0, .int .i64 0, .int .u8 0, .int .i64 0, .int .i64 0, .slice none 0 0, .slice none 0 0, .int .u8 0, .slice none 0 0, .int .i64 0, .slice none 0 0, .int .i64 0, .int .i64 0, .int .i64 0, .slice none 0 0, .slice none 0 0, .int .i64 0, .slice none 0 0, .slice none 0 0]) Try.underlying39 (by kernel_rfl) rfl (by decide)
theorem prB_nine {id : Int} {g : GroupD} {v se : Int} {bu : Bool} {o : OpD} {n : GroupD} {qu : Int} (hp : prB (id, g, v, se, bu, o, n, qu) = true) : g.2.length ≤ 9 ∧ 0 ≤ qu ∧ qu ≤ 4611686018427387904 := by
  unfold prB at hp
  simp only [Bool.and_eq_true] at hp
  have h1 := grpOk_len hp.2.1
  have h2 := hp.2.2.2.2.1
  unfold numB at h2
  have h3 := of_decide_eq_true h2
  exact ⟨h1.2, h3.1, h3.2⟩
/-- An own row of messages as a row of data. -/
theorem own_row {w : World} {base n : Nat} {v : Value} {vs : List Value} {ms : List MsgD} {Q : Nat → Prop} (ho : w.ownsRow base 58 28 v n vs) (hR : tyMsg.Rows w Q ms vs) (hl : ms.length = n) (hQ : ∀ b, base ≤ b → Q b) : ∃ A c, v = .slice A n c ∧ (Ty.row tyMsg).Is w Q ms [.slice A n c] := by
  obtain ⟨A, c, rfl, h1, h2, h3, h4, h5⟩ := own_out ho
  exact ⟨A, c, rfl, A, n, c, vs, rfl, hl, h2, by unfold maxLen at h3; omega, h4, fun _ a ha => hQ _ (h5 a ha).1, hR⟩
theorem own_blk_ge {w : World} {base e size n : Nat} {v : Value} {xs : List Value} (h : w.ownsRow base e size v n xs) : ∀ g, v.ownBlock = some g → base ≤ g := by
  rcases h.2 with ⟨rfl, rfl⟩ | ⟨g, cap, cur, rfl, hbg, hg, _⟩
  · intro g hg; simp [Value.ownBlock] at hg
  · intro k hk
    simp [Value.ownBlock] at hk
    subst hk
    exact hbg
theorem addr_blk (a : Addr) (k : Nat) : (a.add k).block = a.block := by unfold Addr.add; split <;> rfl
set_option maxRecDepth 20000 in
set_option maxHeartbeats 51200000 in
theorem rTick_any {w : World} {Q : Nat → Prop} {x : ProxyD} {cs : List Value} (h : tyProxy.Is w Q x cs) : Calls Try.prog 26 #[.agg cs.toArray] w fun e w' => TickIs w w' (fun _ => True) (tickD x) e := by
  obtain ⟨id, ⟨ge, gm⟩, v, se, bu, o, n, qu, c1, c2, c6, c7, c8, c9, c10, c11, c12, rfl, rfl, p1, p2, p3, p4, hg, ho, hn⟩ := Proxy_parts h.low
  have hg0 := hg
  obtain ⟨gA, gn, gc, rfl, rfl, gb, gl1, gl2, gl3, gl4, gl5⟩ := Group_cells hg
  simp only at gl1 gl4 gl5
  have HRl := hide (show ∀ a, gA = some a → a.block < w.heap.size ∨ gm = [] from fun a ha => by
    by_cases hne : gm = []
    · exact Or.inr hne
    · exact Or.inl (rd_block gl4 (fun e => hne (by have h0 := congrArg List.length e; simpa [ints] using h0)) a ha))
  have HP := hide h.low
  have HG := hide hg
  have HO := hide ho
  have HNx := hide hn
  have Hgl := hide gl1
  have HRd := hide gl4
  have HMi := hide gl5
  clear h hg0 hg ho hn gl1 gl4 gl5
  obtain ⟨gg, hgg⟩ : ∃ g, w.heap.size = g := ⟨_, rfl⟩
  obtain ⟨w0, hw0⟩ : ∃ x, (w.alloc (.cells #[.int .i64 id, .int .i64 ge, .slice gA gn gc, .int .i64 v, .int .i64 se, .bool bu, c6, c7, c8, c9, c10, c11, c12, .int .i64 qu] 30)).alloc (.cells #[.int .i64 0, .int .i64 0, .slice none 0 0, .int .i64 0, .int .i64 0, .bool false, .int .u8 0, .int .i64 0, .int .i64 0, .slice none 0 0, .slice none 0 0, .int .i64 0, .slice none 0 0, .int .i64 0] 30) = x := ⟨_, rfl⟩
  have hP0 : Blk w0 gg [.int .i64 id, .int .i64 ge, .slice gA gn gc, .int .i64 v, .int .i64 se, .bool bu, c6, c7, c8, c9, c10, c11, c12, .int .i64 qu] 30 := by rw [← hw0, ← hgg]; exact (Blk.new w _ _).alloc _
  have hZ0 : Blk w0 (gg + 1) [.int .i64 0, .int .i64 0, .slice none 0 0, .int .i64 0, .int .i64 0, .bool false, .int .u8 0, .int .i64 0, .int .i64 0, .slice none 0 0, .slice none 0 0, .int .i64 0, .slice none 0 0, .int .i64 0] 30 := by
    rw [← hw0, ← hgg]
    have := Blk.new (w.alloc (.cells #[.int .i64 id, .int .i64 ge, .slice gA gn gc, .int .i64 v, .int .i64 se, .bool bu, c6, c7, c8, c9, c10, c11, c12, .int .i64 qu] 30)) [.int .i64 0, .int .i64 0, .slice none 0 0, .int .i64 0, .int .i64 0, .bool false, .int .u8 0, .int .i64 0, .int .i64 0, .slice none 0 0, .slice none 0 0, .int .i64 0, .slice none 0 0, .int .i64 0] 30
    rwa [World.size_alloc] at this
  have b0 : Below w.heap.size w w0 := by rw [← hw0]; exact ((Below.refl _ _).alloc (Nat.le_refl _) _).alloc (by simp) _
  have zl := hZ0.lt
  have Hw0 := hide hw0
  have s0 := b0.size
  have iD0 := HP.out.below b0
  clear hw0
  go_enter Try.func26, Try.ntmps26
  go_wp2_with (first | (with_reducible refine stop_load 30 rfl ?_) | (with_reducible refine stop_store 30 rfl ?_) | (with_reducible refine stop_load 28 rfl ?_) | (with_reducible refine stop_store 28 rfl ?_) | (with_reducible refine stop_load 49 rfl ?_) | (with_reducible refine stop_store 49 rfl ?_) | (with_reducible refine stop_load 24 rfl ?_) | (with_reducible refine stop_store 24 rfl ?_) | (with_reducible refine stop_load 58 rfl ?_) | (with_reducible refine stop_store 58 rfl ?_))
  rw [Hw0.out]
  refine go_loadG rfl rfl (k := 0) rfl hP0 [.int .i64 id, .int .i64 ge, .slice gA gn gc, .int .i64 v, .int .i64 se, .bool bu, c6, c7, c8, c9, c10, c11, c12, .int .i64 qu] rfl Try.underlying30 rfl (by kernel_rfl) ?_
  go_wp2_with (first | (with_reducible refine stop_load 30 rfl ?_) | (with_reducible refine stop_store 30 rfl ?_) | (with_reducible refine stop_load 28 rfl ?_) | (with_reducible refine stop_store 28 rfl ?_) | (with_reducible refine stop_load 49 rfl ?_) | (with_reducible refine stop_store 49 rfl ?_) | (with_reducible refine stop_load 24 rfl ?_) | (with_reducible refine stop_store 24 rfl ?_) | (with_reducible refine stop_load 58 rfl ?_) | (with_reducible refine stop_store 58 rfl ?_))
  go_fit (rprC_any iD0)
  rintro xx w1 ⟨rfl, hd1⟩
  have b1 := b0.trans (hd1.mono s0)
  have s1 := hd1.size
  have hP1 := hP0.below hd1
  have hZ1 := hZ0.below hd1
  have iD1 := iD0.below hd1
  have y5 := hP1.cell (j := 5) rfl
  have y13 := hP1.cell (j := 13) rfl
  rcases bool_two (prB (id, (ge, gm), v, se, bu, o, n, qu)) with q2 | q2
  rotate_left
  · have HF := hide (show tickD (id, (ge, gm), v, se, bu, o, n, qu) = ((id, (ge, gm), v, se, bu, o, n, qu), []) by rw [tickD, if_pos q2])
    rw [prE_no q2]
    clear q2
    go_wp2_with (first | (with_reducible refine stop_load 30 rfl ?_) | (with_reducible refine stop_store 30 rfl ?_) | (with_reducible refine stop_load 28 rfl ?_) | (with_reducible refine stop_store 28 rfl ?_) | (with_reducible refine stop_load 49 rfl ?_) | (with_reducible refine stop_store 49 rfl ?_) | (with_reducible refine stop_load 24 rfl ?_) | (with_reducible refine stop_store 24 rfl ?_) | (with_reducible refine stop_load 58 rfl ?_) | (with_reducible refine stop_store 58 rfl ?_))
    repeat (refine go_skipG rfl ?_; go_wp2_with (first | (with_reducible refine stop_load 30 rfl ?_) | (with_reducible refine stop_store 30 rfl ?_) | (with_reducible refine stop_load 28 rfl ?_) | (with_reducible refine stop_store 28 rfl ?_) | (with_reducible refine stop_load 49 rfl ?_) | (with_reducible refine stop_store 49 rfl ?_) | (with_reducible refine stop_load 24 rfl ?_) | (with_reducible refine stop_store 24 rfl ?_) | (with_reducible refine stop_load 58 rfl ?_) | (with_reducible refine stop_store 58 rfl ?_)))
    refine go_loadG rfl rfl (k := 0) rfl hP1 [.int .i64 id, .int .i64 ge, .slice gA gn gc, .int .i64 v, .int .i64 se, .bool bu, c6, c7, c8, c9, c10, c11, c12, .int .i64 qu] rfl Try.underlying30 rfl (by kernel_rfl) ?_
    go_wp2_with (first | (with_reducible refine stop_load 30 rfl ?_) | (with_reducible refine stop_store 30 rfl ?_) | (with_reducible refine stop_load 28 rfl ?_) | (with_reducible refine stop_store 28 rfl ?_) | (with_reducible refine stop_load 49 rfl ?_) | (with_reducible refine stop_store 49 rfl ?_) | (with_reducible refine stop_load 24 rfl ?_) | (with_reducible refine stop_store 24 rfl ?_) | (with_reducible refine stop_load 58 rfl ?_) | (with_reducible refine stop_store 58 rfl ?_))
    refine go_store rfl rfl rfl rfl rfl hZ1 (by kernel_rfl) rfl (us := [.int .i64 id, .int .i64 ge, .slice gA gn gc, .int .i64 v, .int .i64 se, .bool bu, c6, c7, c8, c9, c10, c11, c12, .int .i64 qu]) iD1.ones ?_
    go_wp2
    refine bodyPost_ret (results_cell2 rfl rfl (hZ1.setAll [.int .i64 id, .int .i64 ge, .slice gA gn gc, .int .i64 v, .int .i64 se, .bool bu, c6, c7, c8, c9, c10, c11, c12, .int .i64 qu]) Try.underlying30 rfl (by kernel_rfl)) rfl ?_
    have hF := Fr.row (X := fun b => b = gg + 1) rfl w1 #[.int .i64 id, .int .i64 ge, .slice gA gn gc, .int .i64 v, .int .i64 se, .bool bu, c6, c7, c8, c9, c10, c11, c12, .int .i64 qu]
    refine ⟨[.int .i64 id, .int .i64 ge, .slice gA gn gc, .int .i64 v, .int .i64 se, .bool bu, c6, c7, c8, c9, c10, c11, c12, .int .i64 qu], none, 0, 0, by first | rfl | (rw [HF.out]; rfl), ?_, by rw [HF.out]; exact zeroL_is, hF.below (by first | exact b1 | (rw [← hgg]; exact b1)) (by omega) (fun b hb => by have hb' : b = gg + 1 := hb; omega)⟩
    rw [HF.out]
    exact (iD1.fr hF (fun b hb hx => by have hx' : b = gg + 1 := hx; have hb' : b < w.heap.size := hb; omega)).any
  have hid := prB_id q2
  have h9 := prB_nine q2
  rw [prE_ok q2]
  have Q2 := hide q2
  clear q2
  cases bu with
  | false =>
    have HF := hide (show tickD (id, (ge, gm), v, se, false, o, n, qu) = ((id, (ge, gm), v, se, false, o, n, qu), []) by rw [tickD, if_neg (by rw [Q2.out]; exact fun h => Bool.noConfusion h), if_pos rfl])
    go_wp2_with (first | (with_reducible refine stop_load 30 rfl ?_) | (with_reducible refine stop_store 30 rfl ?_) | (with_reducible refine stop_load 28 rfl ?_) | (with_reducible refine stop_store 28 rfl ?_) | (with_reducible refine stop_load 49 rfl ?_) | (with_reducible refine stop_store 49 rfl ?_) | (with_reducible refine stop_load 24 rfl ?_) | (with_reducible refine stop_store 24 rfl ?_) | (with_reducible refine stop_load 58 rfl ?_) | (with_reducible refine stop_store 58 rfl ?_))
    repeat (refine go_skipG rfl ?_; go_wp2_with (first | (with_reducible refine stop_load 30 rfl ?_) | (with_reducible refine stop_store 30 rfl ?_) | (with_reducible refine stop_load 28 rfl ?_) | (with_reducible refine stop_store 28 rfl ?_) | (with_reducible refine stop_load 49 rfl ?_) | (with_reducible refine stop_store 49 rfl ?_) | (with_reducible refine stop_load 24 rfl ?_) | (with_reducible refine stop_store 24 rfl ?_) | (with_reducible refine stop_load 58 rfl ?_) | (with_reducible refine stop_store 58 rfl ?_)))
    refine go_loadG rfl rfl (k := 0) rfl hP1 [.int .i64 id, .int .i64 ge, .slice gA gn gc, .int .i64 v, .int .i64 se, .bool false, c6, c7, c8, c9, c10, c11, c12, .int .i64 qu] rfl Try.underlying30 rfl (by kernel_rfl) ?_
    go_wp2_with (first | (with_reducible refine stop_load 30 rfl ?_) | (with_reducible refine stop_store 30 rfl ?_) | (with_reducible refine stop_load 28 rfl ?_) | (with_reducible refine stop_store 28 rfl ?_) | (with_reducible refine stop_load 49 rfl ?_) | (with_reducible refine stop_store 49 rfl ?_) | (with_reducible refine stop_load 24 rfl ?_) | (with_reducible refine stop_store 24 rfl ?_) | (with_reducible refine stop_load 58 rfl ?_) | (with_reducible refine stop_store 58 rfl ?_))
    refine go_store rfl rfl rfl rfl rfl hZ1 (by kernel_rfl) rfl (us := [.int .i64 id, .int .i64 ge, .slice gA gn gc, .int .i64 v, .int .i64 se, .bool false, c6, c7, c8, c9, c10, c11, c12, .int .i64 qu]) iD1.ones ?_
    go_wp2
    refine bodyPost_ret (results_cell2 rfl rfl (hZ1.setAll [.int .i64 id, .int .i64 ge, .slice gA gn gc, .int .i64 v, .int .i64 se, .bool false, c6, c7, c8, c9, c10, c11, c12, .int .i64 qu]) Try.underlying30 rfl (by kernel_rfl)) rfl ?_
    have hF := Fr.row (X := fun b => b = gg + 1) rfl w1 #[.int .i64 id, .int .i64 ge, .slice gA gn gc, .int .i64 v, .int .i64 se, .bool false, c6, c7, c8, c9, c10, c11, c12, .int .i64 qu]
    refine ⟨[.int .i64 id, .int .i64 ge, .slice gA gn gc, .int .i64 v, .int .i64 se, .bool false, c6, c7, c8, c9, c10, c11, c12, .int .i64 qu], none, 0, 0, by first | rfl | (rw [HF.out]; rfl), ?_, by rw [HF.out]; exact zeroL_is, hF.below (by first | exact b1 | (rw [← hgg]; exact b1)) (by omega) (fun b hb => by have hb' : b = gg + 1 := hb; omega)⟩
    rw [HF.out]
    exact (iD1.fr hF (fun b hb hx => by have hx' : b = gg + 1 := hx; have hb' : b < w.heap.size := hb; omega)).any
  | true =>
    obtain ⟨h91, h92, h93⟩ := h9
    have hgn : gn ≤ 9 := by rw [← Hgl.out]; exact h91
    have hwr : IntKind.i64.wrap (qu + 1) = qu + 1 := IntWalk.i64_in _ (by omega)
    have f13 := hP1.frozen 13
    go_wp2_with (first | (with_reducible refine stop_load 30 rfl ?_) | (with_reducible refine stop_store 30 rfl ?_) | (with_reducible refine stop_load 28 rfl ?_) | (with_reducible refine stop_store 28 rfl ?_) | (with_reducible refine stop_load 49 rfl ?_) | (with_reducible refine stop_store 49 rfl ?_) | (with_reducible refine stop_load 24 rfl ?_) | (with_reducible refine stop_store 24 rfl ?_) | (with_reducible refine stop_load 58 rfl ?_) | (with_reducible refine stop_store 58 rfl ?_))
    all_goals first
      | (have hlt0 : qu < 4611686018427387904 := by omega
         have hnq : nextQ qu = (qu + 1) := by unfold nextQ; rw [if_pos hlt0]
         have HF := hide (show tickD (id, (ge, gm), v, se, true, o, n, qu) = ((id, (ge, gm), v, se, true, o, n, (qu + 1)), if ((qu + 1) % 4 == 0) = true then gm.map (reqD (id, (ge, gm), v, se, true, o, n, (qu + 1))) else []) by
           have h0 : tickD (id, (ge, gm), v, se, true, o, n, qu) = ((id, (ge, gm), v, se, true, o, n, (nextQ qu)), if (nextQ qu % 4 == 0) = true then gm.map (reqD (id, (ge, gm), v, se, true, o, n, (nextQ qu))) else []) := by
             rw [tickD, if_neg (by rw [Q2.out]; exact fun h => Bool.noConfusion h), if_neg (by decide)]
           rw [h0, hnq]; (first | done | rfl))
         clear hnq
         obtain ⟨qx, hqx⟩ : ∃ z : Int, (qu + 1) = z := ⟨_, rfl⟩
         have hq0 : 0 ≤ qx ∧ qx ≤ 4611686018427387904 := by omega
         have HFq := hide (HF.out.trans (by rw [hqx]; (first | done | rfl)) : tickD (id, (ge, gm), v, se, true, o, n, qu) = ((id, (ge, gm), v, se, true, o, n, qx), if (qx % 4 == 0) = true then gm.map (reqD (id, (ge, gm), v, se, true, o, n, qx)) else []))
         obtain ⟨w2, hw2⟩ : ∃ x, w1.setCell ⟨gg, 13, none⟩ (.int .i64 qx) = x := ⟨_, rfl⟩
         have hP2 : Blk w2 gg [.int .i64 id, .int .i64 ge, .slice gA gn gc, .int .i64 v, .int .i64 se, .bool true, c6, c7, c8, c9, c10, c11, c12, .int .i64 qx] 30 := by rw [← hw2]; exact hP1.set 13 _
         have hF2 : Fr (fun b => b = gg) w1 w2 := by rw [← hw2]; exact Fr.set (X := fun b => b = gg) w1 ⟨gg, 13, none⟩ _ rfl
         have hZ2 := hZ1.fr hF2 (by omega)
         have b2 := hF2.below b1 b1.size (fun b hb => by have hb' : b = gg := hb; omega)
         have s2 := hF2.size
         rw [hqx]
         rw [hw2]
         clear hw2 f13 y13 y5 HF hqx
         have HI := hide (fun (W : World) (hW : Below w.heap.size w W) => (Proxy_shut (bu := true) (qu := qx) p1 p2 p3 (by omega) (HG.out.below hW) (HO.out.below hW) (HNx.out.below hW) : tyProxy.Is W (fun b => b < w.heap.size) (id, (ge, gm), v, se, true, o, n, qx) [.int .i64 id, .int .i64 ge, .slice gA gn gc, .int .i64 v, .int .i64 se, .bool true, c6, c7, c8, c9, c10, c11, c12, .int .i64 qx]))
         obtain ⟨qq, hqq⟩ : ∃ b, (qx % 4 == 0) = b := ⟨_, rfl⟩
         have hqt : qx.tmod 4 = qx % 4 := Int.tmod_eq_emod_of_nonneg hq0.1
         go_wp2_with (first | (with_reducible refine stop_load 30 rfl ?_) | (with_reducible refine stop_store 30 rfl ?_) | (with_reducible refine stop_load 28 rfl ?_) | (with_reducible refine stop_store 28 rfl ?_) | (with_reducible refine stop_load 49 rfl ?_) | (with_reducible refine stop_store 49 rfl ?_) | (with_reducible refine stop_load 24 rfl ?_) | (with_reducible refine stop_store 24 rfl ?_) | (with_reducible refine stop_load 58 rfl ?_) | (with_reducible refine stop_store 58 rfl ?_))
         go_loopw [4, 5] (fun s4 s5 wr => ∃ (k : Nat) (vs : List Value), k ≤ gn ∧ s5 = .int .i64 k ∧ (qq = false → k = 0) ∧ wr.ownsRow (gg + 2) 58 28 s4 k vs ∧ tyMsg.Rows wr (fun b => b < w.heap.size) ((gm.take k).map (reqD (id, (ge, gm), v, se, true, o, n, qx))) vs ∧ Blk wr gg [.int .i64 id, .int .i64 ge, .slice gA gn gc, .int .i64 v, .int .i64 se, .bool true, c6, c7, c8, c9, c10, c11, c12, .int .i64 qx] 30 ∧ Blk wr (gg + 1) [.int .i64 0, .int .i64 0, .slice none 0 0, .int .i64 0, .int .i64 0, .bool false, .int .u8 0, .int .i64 0, .int .i64 0, .slice none 0 0, .slice none 0 0, .int .i64 0, .slice none 0 0, .int .i64 0] 30 ∧ Below w.heap.size w wr ∧ w2.heap.size ≤ wr.heap.size) (fun _ s5 _ => gn - (intOf s5).toNat)
         case atStart => exact ⟨0, [], by omega, rfl, fun _ => rfl, World.ownsRow_nil _ _ _ _, Ty.Rows.nil, hP2, hZ2, b2, Nat.le_refl _⟩
         case round =>
           obtain ⟨k, vs, hk, rfl, hqk, hown, hRows, hPr, hZr, hb, hsz⟩ := hrel
           have y2 := hPr.cell (j := 2) rfl
           have y13 := hPr.cell (j := 13) rfl
           by_cases hlt : k < gn ∧ qq = true
           · obtain ⟨hlt, hqt2⟩ := hlt
             subst hqt2
             have hkI : decide ((k : Int) < (gn : Int)) = true := decide_eq_true (by omega)
             have hkN : decide (k < gn) = true := decide_eq_true hlt
             have hkl : k < gm.length := by rw [Hgl.out]; exact hlt
             have hgr := (HRd.out).below hb
             obtain ⟨a, ha, hca⟩ := hgr k _ (ints_get hkl)
             subst ha
             have halt : a.block < w.heap.size := by
               rcases HRl.out a rfl with h | h
               · exact h
               · rw [h] at hkl; simp at hkl
             obtain ⟨xm, hxm0⟩ : ∃ z, gm[k] = z := ⟨_, rfl⟩
             have hxm := HMi.out _ (List.getElem_mem hkl)
             rw [hxm0] at hca hxm
             have htk : (gm.take (k + 1)).map (reqD (id, (ge, gm), v, se, true, o, n, qx)) = (gm.take k).map (reqD (id, (ge, gm), v, se, true, o, n, qx)) ++ [reqD (id, (ge, gm), v, se, true, o, n, qx) xm] := by
               rw [List.take_succ_eq_append_getElem hkl, List.map_append, hxm0]; rfl
             obtain ⟨oA, oc, rfl, -, -, -, -, -⟩ := own_out hown
             go_wp2_with (first | (with_reducible refine stop_load 30 rfl ?_) | (with_reducible refine stop_store 30 rfl ?_) | (with_reducible refine stop_load 28 rfl ?_) | (with_reducible refine stop_store 28 rfl ?_) | (with_reducible refine stop_load 49 rfl ?_) | (with_reducible refine stop_store 49 rfl ?_) | (with_reducible refine stop_load 24 rfl ?_) | (with_reducible refine stop_store 24 rfl ?_) | (with_reducible refine stop_load 58 rfl ?_) | (with_reducible refine stop_store 58 rfl ?_))
             obtain ⟨wd, hwd⟩ : ∃ x, wr.drew = x := ⟨_, rfl⟩
             have hbd : Below wr.heap.size wr wd := by rw [← hwd]; exact (Below.refl _ _).drew
             have hPd := hPr.below hbd
             have hZd := hZr.below hbd
             have hod := own_below hown hbd
             have hRd := hRows.below hbd
             have bd := hb.trans (hbd.mono hb.size)
             have sd := hbd.size
             have hcd := below_cell hbd hca
             have hS0 : Blk wr.drew gg [.int .i64 id, .int .i64 ge, .slice (some a) gn gc, .int .i64 v, .int .i64 se, .bool true, c6, c7, c8, c9, c10, c11, c12, .int .i64 qx] 30 ∧ wr.drew.cell? (a.add k) = some (.int .i64 xm) := by rw [hwd]; exact ⟨hPd, hcd⟩
             refine wp_region_held_drew (S := fun Z => Blk Z gg [.int .i64 id, .int .i64 ge, .slice (some a) gn gc, .int .i64 v, .int .i64 se, .bool true, c6, c7, c8, c9, c10, c11, c12, .int .i64 qx] 30 ∧ Z.cell? (a.add k) = some (.int .i64 xm)) (by kernel_rfl) hS0 (fun hS0 => ?_)
             refine wpAnyH_take (fuel := 11) (i := 0) (v := .slice oA k oc) rfl (by kernel_rfl) (by kernel_rfl) (by kernel_rfl) (fun _ _ _ h => h) (Or.inl ⟨by rfl, fun Z hZ => ?_⟩) hS0 ?_
             · go_simp
             refine wpAnyH_take (fuel := 10) (i := 1) (v := .agg #[.int .i64 id, .int .i64 ge, .slice (some a) gn gc, .int .i64 v, .int .i64 se, .bool true, c6, c7, c8, c9, c10, c11, c12, .int .i64 qx]) rfl (by kernel_rfl) (by kernel_rfl) (by kernel_rfl) (fun _ _ _ h => h) (yieldsIf_load_mid rfl 30 _ rfl gg 0 rfl [.int .i64 id, .int .i64 ge, .slice (some a) gn gc, .int .i64 v, .int .i64 se, .bool true, c6, c7, c8, c9, c10, c11, c12, .int .i64 qx] _ (fun w hw => hw.1.range) Try.underlying30 rfl (by kernel_rfl)) hS0 ?_
             refine wpAnyH_take (fuel := 9) (i := 2) (v := .pointer (some ⟨gg, 1, none⟩)) rfl (by kernel_rfl) (by kernel_rfl) (by kernel_rfl) (fun _ _ _ h => h) (Or.inl ⟨by rfl, fun Z hZ => ?_⟩) hS0 ?_
             · go_simp
             refine wpAnyH_take (fuel := 8) (i := 3) (v := .pointer (some ⟨gg, 2, none⟩)) rfl (by kernel_rfl) (by kernel_rfl) (by kernel_rfl) (fun _ _ _ h => h) (Or.inl ⟨by rfl, fun Z hZ => ?_⟩) hS0 ?_
             · go_simp
             refine wpAnyH_take (fuel := 7) (i := 4) (v := .slice (some a) gn gc) rfl (by kernel_rfl) (by kernel_rfl) (by kernel_rfl) (fun _ _ _ h => h) (Or.inl ⟨by rfl, fun Z hZ => ?_⟩) hS0 ?_
             · have zz := Blk.cell hZ.1 (j := 2) rfl; go_simp
             refine wpAnyH_take (fuel := 6) (i := 5) (v := .int .i64 (k : Int)) rfl (by kernel_rfl) (by kernel_rfl) (by kernel_rfl) (fun _ _ _ h => h) (Or.inl ⟨by rfl, fun Z hZ => ?_⟩) hS0 ?_
             · go_simp
             refine wpAnyH_take (fuel := 5) (i := 6) (v := .pointer (some (a.add k))) rfl (by kernel_rfl) (by kernel_rfl) (by kernel_rfl) (fun _ _ _ h => h) (Or.inl ⟨by rfl, fun Z hZ => ?_⟩) hS0 ?_
             · go_simp
             refine wpAnyH_take (fuel := 4) (i := 7) (v := .int .i64 xm) rfl (by kernel_rfl) (by kernel_rfl) (by kernel_rfl) (fun _ _ _ h => h) (Or.inl ⟨by rfl, fun Z hZ => ?_⟩) hS0 ?_
             · have zz := hZ.2; go_simp
             rw [hwd]
             refine all_one (fuel := 3) (i := 8) (by kernel_rfl) rfl rfl (fun Kk hK => ?_)
             go_simp
             go_fit (rreq_any (HI.out wd bd) hid hxm)
             rintro e' w6 ⟨ms', rfl, iM6, hd6⟩
             obtain ⟨d0, d1, d2, d3, d4, d5, d6, d7, d8, d9, d10, d11, d12, d13, d14, d15, d16, d17, d18, d19, d20, d21, d22, d23, d24, d25, d26, d27, rfl⟩ := list_28 (iM6.len : ms'.length = 28)
             have b6 := bd.trans (hd6.mono bd.size)
             have s6 := hd6.size
             have hP6 := hPd.below hd6
             have hZ6 := hZd.below hd6
             have ho6 := own_below hod hd6
             have hR6 := hRd.below hd6
             have hc6 := below_cell hd6 hcd
             refine hK _ _ ⟨⟨hP6, hc6⟩, ?_⟩
             clear hK Kk
             refine all_one (fuel := 2) (i := 9) (by kernel_rfl) rfl rfl (fun Kk hK => ?_)
             obtain ⟨gm7, hgm7⟩ : ∃ m, w6.heap.size = m := ⟨_, rfl⟩
             obtain ⟨w7, hw7⟩ : ∃ x, w6.alloc (.cells #[d0, d1, d2, d3, d4, d5, d6, d7, d8, d9, d10, d11, d12, d13, d14, d15, d16, d17, d18, d19, d20, d21, d22, d23, d24, d25, d26, d27] 58) = x := ⟨_, rfl⟩
             have hX7 : Blk w7 gm7 [d0, d1, d2, d3, d4, d5, d6, d7, d8, d9, d10, d11, d12, d13, d14, d15, d16, d17, d18, d19, d20, d21, d22, d23, d24, d25, d26, d27] 58 := by rw [← hw7, ← hgm7]; exact Blk.new w6 _ _
             have hd7 : Below w6.heap.size w6 w7 := by rw [← hw7]; exact (Below.refl _ _).alloc (Nat.le_refl _) _
             have b7 := b6.trans (hd7.mono b6.size)
             have s7 := hd7.size
             have hP7 := hP6.below hd7
             have hZ7 := hZ6.below hd7
             have ho7 := own_below ho6 hd7
             have hR7 := hR6.below hd7
             have hc7 := below_cell hd7 hc6
             have iM7 := iM6.below hd7
             go_simp
             try rw [hw7]
             try rw [hgm7]
             refine hK _ _ ⟨⟨hP7, hc7⟩, ?_⟩
             clear hK Kk
             refine all_one (fuel := 1) (i := 10) (by kernel_rfl) rfl rfl (fun Kk hK => ?_)
             refine oper_own rfl slTM (by rfl) ho7 (A := some ⟨gm7, 0, none⟩) (m := 1) (c := 1) (by rfl) (by rfl) (rd_blk hX7) iM7.ones (by omega) (by omega) (by omega) ?_
             intro v8 w8 ho8 hgr hkr
             have hFr := Fr.of_grown (X := fun b => gg + 2 ≤ b) hgr (fun b hb => by
               have h1 := own_blk_ge ho7 b hb
               omega)
             have hP8 := hP7.fr hFr (by omega)
             have hZ8 := hZ7.fr hFr (by omega)
             have hc8 := hFr.cell hc7 (by have : a.block < w.heap.size := halt; show ¬ gg + 2 ≤ _; rw [addr_blk]; omega)
             have hR8 := (hR7.fr hFr (fun b hb hx => by have hb' : b < w.heap.size := hb; have hx' : gg + 2 ≤ b := hx; omega)).snoc (iM7.fr hFr (fun b hb hx => by have hb' : b < w.heap.size := hb; have hx' : gg + 2 ≤ b := hx; omega))
             have b8 := hFr.below b7 b7.size (fun b hb => by have hb' : gg + 2 ≤ b := hb; omega)
             have s8 := hFr.size
             refine hK _ _ ⟨⟨hP8, hc8⟩, ?_⟩
             clear hK Kk
             refine all_one (fuel := 0) (i := 11) (by kernel_rfl) rfl rfl (fun Kk hK => ?_)
             go_simp
             refine hK _ _ ⟨⟨hP8, hc8⟩, ?_⟩
             clear hK Kk
             refine wpAnyH_done (by kernel_rfl) ?_ _
             try simp only [Act.put, List.setIfInBounds_toArray, List.set_cons_zero, List.set_cons_succ, List.getElem_toArray, List.getElem_cons_zero, List.getElem_cons_succ]
             go_wp2
             go_roundw
             case rel => exact ⟨k + 1, vs ++ [d0, d1, d2, d3, d4, d5, d6, d7, d8, d9, d10, d11, d12, d13, d14, d15, d16, d17, d18, d19, d20, d21, d22, d23, d24, d25, d26, d27], by omega, by go_num, (fun h => Bool.noConfusion h), ho8, by rw [htk]; exact hR8, hP8, hZ8, b8, by omega⟩
             case measure => simp [intOf]; omega
           · obtain ⟨A, c, rfl, hRow⟩ := own_row (Q := fun _ => True) hown hRows.any (by rw [List.length_map, List.length_take, Hgl.out]; omega) (fun _ _ => trivial)
             have hend : (gm.take k).map (reqD (id, (ge, gm), v, se, true, o, n, qx)) = if (qx % 4 == 0) = true then gm.map (reqD (id, (ge, gm), v, se, true, o, n, qx)) else [] := by
               rw [hqq]
               cases qq with
               | false => rw [hqk rfl]; rfl
               | true =>
                 have : k = gn := by
                   rcases Nat.lt_or_ge k gn with h | h
                   · exact absurd ⟨h, rfl⟩ hlt
                   · omega
                 rw [if_pos rfl, List.take_of_length_le (by rw [Hgl.out]; omega)]
             have iD3 := HI.out wr hb
             rcases bool_two (decide (k < gn)) with hkN | hkN
             · have hkI : decide ((k : Int) < (gn : Int)) = true := decide_eq_true (by have := of_decide_eq_true hkN; omega)
               have hq2 : qq = false := by
                 cases qq with
                 | false => rfl
                 | true => exact absurd ⟨of_decide_eq_true hkN, rfl⟩ hlt
               subst hq2
               have hk0 := hqk rfl
               subst hk0
               go_wp2_with (first | (with_reducible refine stop_load 30 rfl ?_) | (with_reducible refine stop_store 30 rfl ?_) | (with_reducible refine stop_load 28 rfl ?_) | (with_reducible refine stop_store 28 rfl ?_) | (with_reducible refine stop_load 49 rfl ?_) | (with_reducible refine stop_store 49 rfl ?_) | (with_reducible refine stop_load 24 rfl ?_) | (with_reducible refine stop_store 24 rfl ?_) | (with_reducible refine stop_load 58 rfl ?_) | (with_reducible refine stop_store 58 rfl ?_))
               refine go_loadG rfl rfl (k := 0) rfl hPr [.int .i64 id, .int .i64 ge, .slice gA gn gc, .int .i64 v, .int .i64 se, .bool true, c6, c7, c8, c9, c10, c11, c12, .int .i64 qx] rfl Try.underlying30 rfl (by kernel_rfl) ?_
               go_wp2_with (first | (with_reducible refine stop_load 30 rfl ?_) | (with_reducible refine stop_store 30 rfl ?_) | (with_reducible refine stop_load 28 rfl ?_) | (with_reducible refine stop_store 28 rfl ?_) | (with_reducible refine stop_load 49 rfl ?_) | (with_reducible refine stop_store 49 rfl ?_) | (with_reducible refine stop_load 24 rfl ?_) | (with_reducible refine stop_store 24 rfl ?_) | (with_reducible refine stop_load 58 rfl ?_) | (with_reducible refine stop_store 58 rfl ?_))
               refine go_store rfl rfl rfl rfl rfl hZr (by kernel_rfl) rfl (us := [.int .i64 id, .int .i64 ge, .slice gA gn gc, .int .i64 v, .int .i64 se, .bool true, c6, c7, c8, c9, c10, c11, c12, .int .i64 qx]) iD3.ones ?_
               go_wp2
               refine bodyPost_ret (results_cell2 rfl rfl (hZr.setAll [.int .i64 id, .int .i64 ge, .slice gA gn gc, .int .i64 v, .int .i64 se, .bool true, c6, c7, c8, c9, c10, c11, c12, .int .i64 qx]) Try.underlying30 rfl (by kernel_rfl)) rfl ?_
               have hF := Fr.row (X := fun b => b = gg + 1) rfl wr #[.int .i64 id, .int .i64 ge, .slice gA gn gc, .int .i64 v, .int .i64 se, .bool true, c6, c7, c8, c9, c10, c11, c12, .int .i64 qx]
               refine ⟨[.int .i64 id, .int .i64 ge, .slice gA gn gc, .int .i64 v, .int .i64 se, .bool true, c6, c7, c8, c9, c10, c11, c12, .int .i64 qx], A, 0, c, by first | rfl | (rw [HFq.out]; rfl), ?_, ?_, hF.below (by first | exact hb | (rw [← hgg]; exact hb)) (by omega) (fun b hb => by have hb' : b = gg + 1 := hb; omega)⟩
               · rw [HFq.out]
                 exact (iD3.fr hF (fun b hb hx => by have hx' : b = gg + 1 := hx; have hb' : b < w.heap.size := hb; omega)).any
               · rw [HFq.out, ← hend]
                 obtain ⟨A2, c2, e2, hRow2⟩ := own_row (Q := fun b => b < w.heap.size ∨ gg + 2 ≤ b) hown (hRows.mono (fun b hb => Or.inl hb)) (by rw [List.length_map, List.length_take, Hgl.out]; omega) (fun b hb => Or.inr hb)
                 injection e2 with e2 e3 e4
                 subst e2 e4
                 exact (hRow2.fr hF (fun b hb hx => by have hx' : b = gg + 1 := hx; have hb' : b < w.heap.size ∨ gg + 2 ≤ b := hb; omega)).any
             · have hkI : decide ((k : Int) < (gn : Int)) = false := decide_eq_false (by have := of_decide_eq_false hkN; omega)
               go_wp2_with (first | (with_reducible refine stop_load 30 rfl ?_) | (with_reducible refine stop_store 30 rfl ?_) | (with_reducible refine stop_load 28 rfl ?_) | (with_reducible refine stop_store 28 rfl ?_) | (with_reducible refine stop_load 49 rfl ?_) | (with_reducible refine stop_store 49 rfl ?_) | (with_reducible refine stop_load 24 rfl ?_) | (with_reducible refine stop_store 24 rfl ?_) | (with_reducible refine stop_load 58 rfl ?_) | (with_reducible refine stop_store 58 rfl ?_))
               refine go_loadG rfl rfl (k := 0) rfl hPr [.int .i64 id, .int .i64 ge, .slice gA gn gc, .int .i64 v, .int .i64 se, .bool true, c6, c7, c8, c9, c10, c11, c12, .int .i64 qx] rfl Try.underlying30 rfl (by kernel_rfl) ?_
               go_wp2_with (first | (with_reducible refine stop_load 30 rfl ?_) | (with_reducible refine stop_store 30 rfl ?_) | (with_reducible refine stop_load 28 rfl ?_) | (with_reducible refine stop_store 28 rfl ?_) | (with_reducible refine stop_load 49 rfl ?_) | (with_reducible refine stop_store 49 rfl ?_) | (with_reducible refine stop_load 24 rfl ?_) | (with_reducible refine stop_store 24 rfl ?_) | (with_reducible refine stop_load 58 rfl ?_) | (with_reducible refine stop_store 58 rfl ?_))
               refine go_store rfl rfl rfl rfl rfl hZr (by kernel_rfl) rfl (us := [.int .i64 id, .int .i64 ge, .slice gA gn gc, .int .i64 v, .int .i64 se, .bool true, c6, c7, c8, c9, c10, c11, c12, .int .i64 qx]) iD3.ones ?_
               go_wp2
               refine bodyPost_ret (results_cell2 rfl rfl (hZr.setAll [.int .i64 id, .int .i64 ge, .slice gA gn gc, .int .i64 v, .int .i64 se, .bool true, c6, c7, c8, c9, c10, c11, c12, .int .i64 qx]) Try.underlying30 rfl (by kernel_rfl)) rfl ?_
               have hF := Fr.row (X := fun b => b = gg + 1) rfl wr #[.int .i64 id, .int .i64 ge, .slice gA gn gc, .int .i64 v, .int .i64 se, .bool true, c6, c7, c8, c9, c10, c11, c12, .int .i64 qx]
               refine ⟨[.int .i64 id, .int .i64 ge, .slice gA gn gc, .int .i64 v, .int .i64 se, .bool true, c6, c7, c8, c9, c10, c11, c12, .int .i64 qx], A, k, c, by first | rfl | (rw [HFq.out]; rfl), ?_, ?_, hF.below (by first | exact hb | (rw [← hgg]; exact hb)) (by omega) (fun b hb => by have hb' : b = gg + 1 := hb; omega)⟩
               · rw [HFq.out]
                 exact (iD3.fr hF (fun b hb hx => by have hx' : b = gg + 1 := hx; have hb' : b < w.heap.size := hb; omega)).any
               · rw [HFq.out, ← hend]
                 obtain ⟨A2, c2, e2, hRow2⟩ := own_row (Q := fun b => b < w.heap.size ∨ gg + 2 ≤ b) hown (hRows.mono (fun b hb => Or.inl hb)) (by rw [List.length_map, List.length_take, Hgl.out]; omega) (fun b hb => Or.inr hb)
                 injection e2 with e2 e3 e4
                 subst e2 e4
                 exact (hRow2.fr hF (fun b hb hx => by have hx' : b = gg + 1 := hx; have hb' : b < w.heap.size ∨ gg + 2 ≤ b := hb; omega)).any)
      | (have hlt0 : ¬ qu < 4611686018427387904 := by omega
         have hnq : nextQ qu = (4611686018427387904 : Int) := by unfold nextQ; rw [if_neg hlt0]
         have HF := hide (show tickD (id, (ge, gm), v, se, true, o, n, qu) = ((id, (ge, gm), v, se, true, o, n, (4611686018427387904 : Int)), if ((4611686018427387904 : Int) % 4 == 0) = true then gm.map (reqD (id, (ge, gm), v, se, true, o, n, (4611686018427387904 : Int))) else []) by
           have h0 : tickD (id, (ge, gm), v, se, true, o, n, qu) = ((id, (ge, gm), v, se, true, o, n, (nextQ qu)), if (nextQ qu % 4 == 0) = true then gm.map (reqD (id, (ge, gm), v, se, true, o, n, (nextQ qu))) else []) := by
             rw [tickD, if_neg (by rw [Q2.out]; exact fun h => Bool.noConfusion h), if_neg (by decide)]
           rw [h0, hnq]; (first | done | rfl))
         clear hnq
         obtain ⟨qx, hqx⟩ : ∃ z : Int, (4611686018427387904 : Int) = z := ⟨_, rfl⟩
         have hq0 : 0 ≤ qx ∧ qx ≤ 4611686018427387904 := by omega
         have HFq := hide (HF.out.trans (by rw [hqx]; (first | done | rfl)) : tickD (id, (ge, gm), v, se, true, o, n, qu) = ((id, (ge, gm), v, se, true, o, n, qx), if (qx % 4 == 0) = true then gm.map (reqD (id, (ge, gm), v, se, true, o, n, qx)) else []))
         obtain ⟨w2, hw2⟩ : ∃ x, w1.setCell ⟨gg, 13, none⟩ (.int .i64 qx) = x := ⟨_, rfl⟩
         have hP2 : Blk w2 gg [.int .i64 id, .int .i64 ge, .slice gA gn gc, .int .i64 v, .int .i64 se, .bool true, c6, c7, c8, c9, c10, c11, c12, .int .i64 qx] 30 := by rw [← hw2]; exact hP1.set 13 _
         have hF2 : Fr (fun b => b = gg) w1 w2 := by rw [← hw2]; exact Fr.set (X := fun b => b = gg) w1 ⟨gg, 13, none⟩ _ rfl
         have hZ2 := hZ1.fr hF2 (by omega)
         have b2 := hF2.below b1 b1.size (fun b hb => by have hb' : b = gg := hb; omega)
         have s2 := hF2.size
         rw [hqx]
         rw [hw2]
         clear hw2 f13 y13 y5 HF hqx
         have HI := hide (fun (W : World) (hW : Below w.heap.size w W) => (Proxy_shut (bu := true) (qu := qx) p1 p2 p3 (by omega) (HG.out.below hW) (HO.out.below hW) (HNx.out.below hW) : tyProxy.Is W (fun b => b < w.heap.size) (id, (ge, gm), v, se, true, o, n, qx) [.int .i64 id, .int .i64 ge, .slice gA gn gc, .int .i64 v, .int .i64 se, .bool true, c6, c7, c8, c9, c10, c11, c12, .int .i64 qx]))
         obtain ⟨qq, hqq⟩ : ∃ b, (qx % 4 == 0) = b := ⟨_, rfl⟩
         have hqt : qx.tmod 4 = qx % 4 := Int.tmod_eq_emod_of_nonneg hq0.1
         go_wp2_with (first | (with_reducible refine stop_load 30 rfl ?_) | (with_reducible refine stop_store 30 rfl ?_) | (with_reducible refine stop_load 28 rfl ?_) | (with_reducible refine stop_store 28 rfl ?_) | (with_reducible refine stop_load 49 rfl ?_) | (with_reducible refine stop_store 49 rfl ?_) | (with_reducible refine stop_load 24 rfl ?_) | (with_reducible refine stop_store 24 rfl ?_) | (with_reducible refine stop_load 58 rfl ?_) | (with_reducible refine stop_store 58 rfl ?_))
         go_loopw [4, 5] (fun s4 s5 wr => ∃ (k : Nat) (vs : List Value), k ≤ gn ∧ s5 = .int .i64 k ∧ (qq = false → k = 0) ∧ wr.ownsRow (gg + 2) 58 28 s4 k vs ∧ tyMsg.Rows wr (fun b => b < w.heap.size) ((gm.take k).map (reqD (id, (ge, gm), v, se, true, o, n, qx))) vs ∧ Blk wr gg [.int .i64 id, .int .i64 ge, .slice gA gn gc, .int .i64 v, .int .i64 se, .bool true, c6, c7, c8, c9, c10, c11, c12, .int .i64 qx] 30 ∧ Blk wr (gg + 1) [.int .i64 0, .int .i64 0, .slice none 0 0, .int .i64 0, .int .i64 0, .bool false, .int .u8 0, .int .i64 0, .int .i64 0, .slice none 0 0, .slice none 0 0, .int .i64 0, .slice none 0 0, .int .i64 0] 30 ∧ Below w.heap.size w wr ∧ w2.heap.size ≤ wr.heap.size) (fun _ s5 _ => gn - (intOf s5).toNat)
         case atStart => exact ⟨0, [], by omega, rfl, fun _ => rfl, World.ownsRow_nil _ _ _ _, Ty.Rows.nil, hP2, hZ2, b2, Nat.le_refl _⟩
         case round =>
           obtain ⟨k, vs, hk, rfl, hqk, hown, hRows, hPr, hZr, hb, hsz⟩ := hrel
           have y2 := hPr.cell (j := 2) rfl
           have y13 := hPr.cell (j := 13) rfl
           by_cases hlt : k < gn ∧ qq = true
           · obtain ⟨hlt, hqt2⟩ := hlt
             subst hqt2
             have hkI : decide ((k : Int) < (gn : Int)) = true := decide_eq_true (by omega)
             have hkN : decide (k < gn) = true := decide_eq_true hlt
             have hkl : k < gm.length := by rw [Hgl.out]; exact hlt
             have hgr := (HRd.out).below hb
             obtain ⟨a, ha, hca⟩ := hgr k _ (ints_get hkl)
             subst ha
             have halt : a.block < w.heap.size := by
               rcases HRl.out a rfl with h | h
               · exact h
               · rw [h] at hkl; simp at hkl
             obtain ⟨xm, hxm0⟩ : ∃ z, gm[k] = z := ⟨_, rfl⟩
             have hxm := HMi.out _ (List.getElem_mem hkl)
             rw [hxm0] at hca hxm
             have htk : (gm.take (k + 1)).map (reqD (id, (ge, gm), v, se, true, o, n, qx)) = (gm.take k).map (reqD (id, (ge, gm), v, se, true, o, n, qx)) ++ [reqD (id, (ge, gm), v, se, true, o, n, qx) xm] := by
               rw [List.take_succ_eq_append_getElem hkl, List.map_append, hxm0]; rfl
             obtain ⟨oA, oc, rfl, -, -, -, -, -⟩ := own_out hown
             go_wp2_with (first | (with_reducible refine stop_load 30 rfl ?_) | (with_reducible refine stop_store 30 rfl ?_) | (with_reducible refine stop_load 28 rfl ?_) | (with_reducible refine stop_store 28 rfl ?_) | (with_reducible refine stop_load 49 rfl ?_) | (with_reducible refine stop_store 49 rfl ?_) | (with_reducible refine stop_load 24 rfl ?_) | (with_reducible refine stop_store 24 rfl ?_) | (with_reducible refine stop_load 58 rfl ?_) | (with_reducible refine stop_store 58 rfl ?_))
             obtain ⟨wd, hwd⟩ : ∃ x, wr.drew = x := ⟨_, rfl⟩
             have hbd : Below wr.heap.size wr wd := by rw [← hwd]; exact (Below.refl _ _).drew
             have hPd := hPr.below hbd
             have hZd := hZr.below hbd
             have hod := own_below hown hbd
             have hRd := hRows.below hbd
             have bd := hb.trans (hbd.mono hb.size)
             have sd := hbd.size
             have hcd := below_cell hbd hca
             have hS0 : Blk wr.drew gg [.int .i64 id, .int .i64 ge, .slice (some a) gn gc, .int .i64 v, .int .i64 se, .bool true, c6, c7, c8, c9, c10, c11, c12, .int .i64 qx] 30 ∧ wr.drew.cell? (a.add k) = some (.int .i64 xm) := by rw [hwd]; exact ⟨hPd, hcd⟩
             refine wp_region_held_drew (S := fun Z => Blk Z gg [.int .i64 id, .int .i64 ge, .slice (some a) gn gc, .int .i64 v, .int .i64 se, .bool true, c6, c7, c8, c9, c10, c11, c12, .int .i64 qx] 30 ∧ Z.cell? (a.add k) = some (.int .i64 xm)) (by kernel_rfl) hS0 (fun hS0 => ?_)
             refine wpAnyH_take (fuel := 11) (i := 0) (v := .slice oA k oc) rfl (by kernel_rfl) (by kernel_rfl) (by kernel_rfl) (fun _ _ _ h => h) (Or.inl ⟨by rfl, fun Z hZ => ?_⟩) hS0 ?_
             · go_simp
             refine wpAnyH_take (fuel := 10) (i := 1) (v := .agg #[.int .i64 id, .int .i64 ge, .slice (some a) gn gc, .int .i64 v, .int .i64 se, .bool true, c6, c7, c8, c9, c10, c11, c12, .int .i64 qx]) rfl (by kernel_rfl) (by kernel_rfl) (by kernel_rfl) (fun _ _ _ h => h) (yieldsIf_load_mid rfl 30 _ rfl gg 0 rfl [.int .i64 id, .int .i64 ge, .slice (some a) gn gc, .int .i64 v, .int .i64 se, .bool true, c6, c7, c8, c9, c10, c11, c12, .int .i64 qx] _ (fun w hw => hw.1.range) Try.underlying30 rfl (by kernel_rfl)) hS0 ?_
             refine wpAnyH_take (fuel := 9) (i := 2) (v := .pointer (some ⟨gg, 1, none⟩)) rfl (by kernel_rfl) (by kernel_rfl) (by kernel_rfl) (fun _ _ _ h => h) (Or.inl ⟨by rfl, fun Z hZ => ?_⟩) hS0 ?_
             · go_simp
             refine wpAnyH_take (fuel := 8) (i := 3) (v := .pointer (some ⟨gg, 2, none⟩)) rfl (by kernel_rfl) (by kernel_rfl) (by kernel_rfl) (fun _ _ _ h => h) (Or.inl ⟨by rfl, fun Z hZ => ?_⟩) hS0 ?_
             · go_simp
             refine wpAnyH_take (fuel := 7) (i := 4) (v := .slice (some a) gn gc) rfl (by kernel_rfl) (by kernel_rfl) (by kernel_rfl) (fun _ _ _ h => h) (Or.inl ⟨by rfl, fun Z hZ => ?_⟩) hS0 ?_
             · have zz := Blk.cell hZ.1 (j := 2) rfl; go_simp
             refine wpAnyH_take (fuel := 6) (i := 5) (v := .int .i64 (k : Int)) rfl (by kernel_rfl) (by kernel_rfl) (by kernel_rfl) (fun _ _ _ h => h) (Or.inl ⟨by rfl, fun Z hZ => ?_⟩) hS0 ?_
             · go_simp
             refine wpAnyH_take (fuel := 5) (i := 6) (v := .pointer (some (a.add k))) rfl (by kernel_rfl) (by kernel_rfl) (by kernel_rfl) (fun _ _ _ h => h) (Or.inl ⟨by rfl, fun Z hZ => ?_⟩) hS0 ?_
             · go_simp
             refine wpAnyH_take (fuel := 4) (i := 7) (v := .int .i64 xm) rfl (by kernel_rfl) (by kernel_rfl) (by kernel_rfl) (fun _ _ _ h => h) (Or.inl ⟨by rfl, fun Z hZ => ?_⟩) hS0 ?_
             · have zz := hZ.2; go_simp
             rw [hwd]
             refine all_one (fuel := 3) (i := 8) (by kernel_rfl) rfl rfl (fun Kk hK => ?_)
             go_simp
             go_fit (rreq_any (HI.out wd bd) hid hxm)
             rintro e' w6 ⟨ms', rfl, iM6, hd6⟩
             obtain ⟨d0, d1, d2, d3, d4, d5, d6, d7, d8, d9, d10, d11, d12, d13, d14, d15, d16, d17, d18, d19, d20, d21, d22, d23, d24, d25, d26, d27, rfl⟩ := list_28 (iM6.len : ms'.length = 28)
             have b6 := bd.trans (hd6.mono bd.size)
             have s6 := hd6.size
             have hP6 := hPd.below hd6
             have hZ6 := hZd.below hd6
             have ho6 := own_below hod hd6
             have hR6 := hRd.below hd6
             have hc6 := below_cell hd6 hcd
             refine hK _ _ ⟨⟨hP6, hc6⟩, ?_⟩
             clear hK Kk
             refine all_one (fuel := 2) (i := 9) (by kernel_rfl) rfl rfl (fun Kk hK => ?_)
             obtain ⟨gm7, hgm7⟩ : ∃ m, w6.heap.size = m := ⟨_, rfl⟩
             obtain ⟨w7, hw7⟩ : ∃ x, w6.alloc (.cells #[d0, d1, d2, d3, d4, d5, d6, d7, d8, d9, d10, d11, d12, d13, d14, d15, d16, d17, d18, d19, d20, d21, d22, d23, d24, d25, d26, d27] 58) = x := ⟨_, rfl⟩
             have hX7 : Blk w7 gm7 [d0, d1, d2, d3, d4, d5, d6, d7, d8, d9, d10, d11, d12, d13, d14, d15, d16, d17, d18, d19, d20, d21, d22, d23, d24, d25, d26, d27] 58 := by rw [← hw7, ← hgm7]; exact Blk.new w6 _ _
             have hd7 : Below w6.heap.size w6 w7 := by rw [← hw7]; exact (Below.refl _ _).alloc (Nat.le_refl _) _
             have b7 := b6.trans (hd7.mono b6.size)
             have s7 := hd7.size
             have hP7 := hP6.below hd7
             have hZ7 := hZ6.below hd7
             have ho7 := own_below ho6 hd7
             have hR7 := hR6.below hd7
             have hc7 := below_cell hd7 hc6
             have iM7 := iM6.below hd7
             go_simp
             try rw [hw7]
             try rw [hgm7]
             refine hK _ _ ⟨⟨hP7, hc7⟩, ?_⟩
             clear hK Kk
             refine all_one (fuel := 1) (i := 10) (by kernel_rfl) rfl rfl (fun Kk hK => ?_)
             refine oper_own rfl slTM (by rfl) ho7 (A := some ⟨gm7, 0, none⟩) (m := 1) (c := 1) (by rfl) (by rfl) (rd_blk hX7) iM7.ones (by omega) (by omega) (by omega) ?_
             intro v8 w8 ho8 hgr hkr
             have hFr := Fr.of_grown (X := fun b => gg + 2 ≤ b) hgr (fun b hb => by
               have h1 := own_blk_ge ho7 b hb
               omega)
             have hP8 := hP7.fr hFr (by omega)
             have hZ8 := hZ7.fr hFr (by omega)
             have hc8 := hFr.cell hc7 (by have : a.block < w.heap.size := halt; show ¬ gg + 2 ≤ _; rw [addr_blk]; omega)
             have hR8 := (hR7.fr hFr (fun b hb hx => by have hb' : b < w.heap.size := hb; have hx' : gg + 2 ≤ b := hx; omega)).snoc (iM7.fr hFr (fun b hb hx => by have hb' : b < w.heap.size := hb; have hx' : gg + 2 ≤ b := hx; omega))
             have b8 := hFr.below b7 b7.size (fun b hb => by have hb' : gg + 2 ≤ b := hb; omega)
             have s8 := hFr.size
             refine hK _ _ ⟨⟨hP8, hc8⟩, ?_⟩
             clear hK Kk
             refine all_one (fuel := 0) (i := 11) (by kernel_rfl) rfl rfl (fun Kk hK => ?_)
             go_simp
             refine hK _ _ ⟨⟨hP8, hc8⟩, ?_⟩
             clear hK Kk
             refine wpAnyH_done (by kernel_rfl) ?_ _
             try simp only [Act.put, List.setIfInBounds_toArray, List.set_cons_zero, List.set_cons_succ, List.getElem_toArray, List.getElem_cons_zero, List.getElem_cons_succ]
             go_wp2
             go_roundw
             case rel => exact ⟨k + 1, vs ++ [d0, d1, d2, d3, d4, d5, d6, d7, d8, d9, d10, d11, d12, d13, d14, d15, d16, d17, d18, d19, d20, d21, d22, d23, d24, d25, d26, d27], by omega, by go_num, (fun h => Bool.noConfusion h), ho8, by rw [htk]; exact hR8, hP8, hZ8, b8, by omega⟩
             case measure => simp [intOf]; omega
           · obtain ⟨A, c, rfl, hRow⟩ := own_row (Q := fun _ => True) hown hRows.any (by rw [List.length_map, List.length_take, Hgl.out]; omega) (fun _ _ => trivial)
             have hend : (gm.take k).map (reqD (id, (ge, gm), v, se, true, o, n, qx)) = if (qx % 4 == 0) = true then gm.map (reqD (id, (ge, gm), v, se, true, o, n, qx)) else [] := by
               rw [hqq]
               cases qq with
               | false => rw [hqk rfl]; rfl
               | true =>
                 have : k = gn := by
                   rcases Nat.lt_or_ge k gn with h | h
                   · exact absurd ⟨h, rfl⟩ hlt
                   · omega
                 rw [if_pos rfl, List.take_of_length_le (by rw [Hgl.out]; omega)]
             have iD3 := HI.out wr hb
             rcases bool_two (decide (k < gn)) with hkN | hkN
             · have hkI : decide ((k : Int) < (gn : Int)) = true := decide_eq_true (by have := of_decide_eq_true hkN; omega)
               have hq2 : qq = false := by
                 cases qq with
                 | false => rfl
                 | true => exact absurd ⟨of_decide_eq_true hkN, rfl⟩ hlt
               subst hq2
               have hk0 := hqk rfl
               subst hk0
               go_wp2_with (first | (with_reducible refine stop_load 30 rfl ?_) | (with_reducible refine stop_store 30 rfl ?_) | (with_reducible refine stop_load 28 rfl ?_) | (with_reducible refine stop_store 28 rfl ?_) | (with_reducible refine stop_load 49 rfl ?_) | (with_reducible refine stop_store 49 rfl ?_) | (with_reducible refine stop_load 24 rfl ?_) | (with_reducible refine stop_store 24 rfl ?_) | (with_reducible refine stop_load 58 rfl ?_) | (with_reducible refine stop_store 58 rfl ?_))
               refine go_loadG rfl rfl (k := 0) rfl hPr [.int .i64 id, .int .i64 ge, .slice gA gn gc, .int .i64 v, .int .i64 se, .bool true, c6, c7, c8, c9, c10, c11, c12, .int .i64 qx] rfl Try.underlying30 rfl (by kernel_rfl) ?_
               go_wp2_with (first | (with_reducible refine stop_load 30 rfl ?_) | (with_reducible refine stop_store 30 rfl ?_) | (with_reducible refine stop_load 28 rfl ?_) | (with_reducible refine stop_store 28 rfl ?_) | (with_reducible refine stop_load 49 rfl ?_) | (with_reducible refine stop_store 49 rfl ?_) | (with_reducible refine stop_load 24 rfl ?_) | (with_reducible refine stop_store 24 rfl ?_) | (with_reducible refine stop_load 58 rfl ?_) | (with_reducible refine stop_store 58 rfl ?_))
               refine go_store rfl rfl rfl rfl rfl hZr (by kernel_rfl) rfl (us := [.int .i64 id, .int .i64 ge, .slice gA gn gc, .int .i64 v, .int .i64 se, .bool true, c6, c7, c8, c9, c10, c11, c12, .int .i64 qx]) iD3.ones ?_
               go_wp2
               refine bodyPost_ret (results_cell2 rfl rfl (hZr.setAll [.int .i64 id, .int .i64 ge, .slice gA gn gc, .int .i64 v, .int .i64 se, .bool true, c6, c7, c8, c9, c10, c11, c12, .int .i64 qx]) Try.underlying30 rfl (by kernel_rfl)) rfl ?_
               have hF := Fr.row (X := fun b => b = gg + 1) rfl wr #[.int .i64 id, .int .i64 ge, .slice gA gn gc, .int .i64 v, .int .i64 se, .bool true, c6, c7, c8, c9, c10, c11, c12, .int .i64 qx]
               refine ⟨[.int .i64 id, .int .i64 ge, .slice gA gn gc, .int .i64 v, .int .i64 se, .bool true, c6, c7, c8, c9, c10, c11, c12, .int .i64 qx], A, 0, c, by first | rfl | (rw [HFq.out]; rfl), ?_, ?_, hF.below (by first | exact hb | (rw [← hgg]; exact hb)) (by omega) (fun b hb => by have hb' : b = gg + 1 := hb; omega)⟩
               · rw [HFq.out]
                 exact (iD3.fr hF (fun b hb hx => by have hx' : b = gg + 1 := hx; have hb' : b < w.heap.size := hb; omega)).any
               · rw [HFq.out, ← hend]
                 obtain ⟨A2, c2, e2, hRow2⟩ := own_row (Q := fun b => b < w.heap.size ∨ gg + 2 ≤ b) hown (hRows.mono (fun b hb => Or.inl hb)) (by rw [List.length_map, List.length_take, Hgl.out]; omega) (fun b hb => Or.inr hb)
                 injection e2 with e2 e3 e4
                 subst e2 e4
                 exact (hRow2.fr hF (fun b hb hx => by have hx' : b = gg + 1 := hx; have hb' : b < w.heap.size ∨ gg + 2 ≤ b := hb; omega)).any
             · have hkI : decide ((k : Int) < (gn : Int)) = false := decide_eq_false (by have := of_decide_eq_false hkN; omega)
               go_wp2_with (first | (with_reducible refine stop_load 30 rfl ?_) | (with_reducible refine stop_store 30 rfl ?_) | (with_reducible refine stop_load 28 rfl ?_) | (with_reducible refine stop_store 28 rfl ?_) | (with_reducible refine stop_load 49 rfl ?_) | (with_reducible refine stop_store 49 rfl ?_) | (with_reducible refine stop_load 24 rfl ?_) | (with_reducible refine stop_store 24 rfl ?_) | (with_reducible refine stop_load 58 rfl ?_) | (with_reducible refine stop_store 58 rfl ?_))
               refine go_loadG rfl rfl (k := 0) rfl hPr [.int .i64 id, .int .i64 ge, .slice gA gn gc, .int .i64 v, .int .i64 se, .bool true, c6, c7, c8, c9, c10, c11, c12, .int .i64 qx] rfl Try.underlying30 rfl (by kernel_rfl) ?_
               go_wp2_with (first | (with_reducible refine stop_load 30 rfl ?_) | (with_reducible refine stop_store 30 rfl ?_) | (with_reducible refine stop_load 28 rfl ?_) | (with_reducible refine stop_store 28 rfl ?_) | (with_reducible refine stop_load 49 rfl ?_) | (with_reducible refine stop_store 49 rfl ?_) | (with_reducible refine stop_load 24 rfl ?_) | (with_reducible refine stop_store 24 rfl ?_) | (with_reducible refine stop_load 58 rfl ?_) | (with_reducible refine stop_store 58 rfl ?_))
               refine go_store rfl rfl rfl rfl rfl hZr (by kernel_rfl) rfl (us := [.int .i64 id, .int .i64 ge, .slice gA gn gc, .int .i64 v, .int .i64 se, .bool true, c6, c7, c8, c9, c10, c11, c12, .int .i64 qx]) iD3.ones ?_
               go_wp2
               refine bodyPost_ret (results_cell2 rfl rfl (hZr.setAll [.int .i64 id, .int .i64 ge, .slice gA gn gc, .int .i64 v, .int .i64 se, .bool true, c6, c7, c8, c9, c10, c11, c12, .int .i64 qx]) Try.underlying30 rfl (by kernel_rfl)) rfl ?_
               have hF := Fr.row (X := fun b => b = gg + 1) rfl wr #[.int .i64 id, .int .i64 ge, .slice gA gn gc, .int .i64 v, .int .i64 se, .bool true, c6, c7, c8, c9, c10, c11, c12, .int .i64 qx]
               refine ⟨[.int .i64 id, .int .i64 ge, .slice gA gn gc, .int .i64 v, .int .i64 se, .bool true, c6, c7, c8, c9, c10, c11, c12, .int .i64 qx], A, k, c, by first | rfl | (rw [HFq.out]; rfl), ?_, ?_, hF.below (by first | exact hb | (rw [← hgg]; exact hb)) (by omega) (fun b hb => by have hb' : b = gg + 1 := hb; omega)⟩
               · rw [HFq.out]
                 exact (iD3.fr hF (fun b hb hx => by have hx' : b = gg + 1 := hx; have hb' : b < w.heap.size := hb; omega)).any
               · rw [HFq.out, ← hend]
                 obtain ⟨A2, c2, e2, hRow2⟩ := own_row (Q := fun b => b < w.heap.size ∨ gg + 2 ≤ b) hown (hRows.mono (fun b hb => Or.inl hb)) (by rw [List.length_map, List.length_take, Hgl.out]; omega) (fun b hb => Or.inr hb)
                 injection e2 with e2 e3 e4
                 subst e2 e4
                 exact (hRow2.fr hF (fun b hb hx => by have hx' : b = gg + 1 := hx; have hb' : b < w.heap.size ∨ gg + 2 ≤ b := hb; omega)).any)
end Go.Proofs.Ytlcbelmbonaooaa
