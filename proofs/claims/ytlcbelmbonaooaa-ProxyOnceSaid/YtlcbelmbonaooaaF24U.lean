/- Stage 24: the requests to all, one by one (written by gen_24ae.py). -/
import Derived.Test.YtlcbelmbonaooaaRn2
import Derived.LoopIn
namespace Go.Proofs.Ytlcbelmbonaooaa
set_option maxRecDepth 20000
open Go.RowKit Go.Px
set_option linter.unusedVariables false
attribute [local go_sem] Oper.semAt_some
theorem keeps24 {w w' : World} (h : Below w.heap.size w w') : KeepsOthers w w' := ⟨h.size, fun k o hk _ => (h.block k (Array.getElem?_eq_some_iff.1 hk).1).trans hk⟩
theorem toAll_any (c0 c1 c2 c3 c4 c5 c6 c7 c8 c9 c10 c11 c12 c13 : Value) (w : World) : Calls Try.prog 55 #[.agg #[c0, c1, c2, c3, c4, c5, c6, c7, c8, c9, c10, c11, c12, c13]] w fun e w' =>
    e = .returned (.func (.func 81) #[] #[.pointer (some ⟨w.heap.size, 0, none⟩)]) ∧ w' = w.alloc (.cells #[c0, c1, c2, c3, c4, c5, c6, c7, c8, c9, c10, c11, c12, c13] 30) := by
  go_enter Try.func55, Try.ntmps55
  go_wp2
  go_ret
  exact ⟨rfl, rfl⟩
set_option maxRecDepth 100000 in
set_option maxHeartbeats 12800000 in
theorem toAll_iter (nn : Nat) (hn : 1 ≤ nn) (l bp : Nat) (id ge v se : Int) (gm : List Int) (bu : Bool) (o : OpD) (n : GroupD) (qu : Int) (gA : Option Addr) (N gc : Nat) (c6 c7 c8 c9 c10 c11 c12 : Value) (hx : gm.length = N) (hN : N ≤ 9) (hid : 1 ≤ id) (hL : LightP (id, (ge, gm), v, se, bu, o, n, qu)) (V : Nat → World → Array Value → Prop) (I M : Nat → World → Prop)
    (hI : ∀ j W, I j W → Blk W bp [.int .i64 id, .int .i64 ge, .slice gA N gc, .int .i64 v, .int .i64 se, .bool bu, c6, c7, c8, c9, c10, c11, c12, .int .i64 qu] 30 ∧ (∃ R, tyProxy.Is W R (id, (ge, gm), v, se, bu, o, n, qu) [.int .i64 id, .int .i64 ge, .slice gA N gc, .int .i64 v, .int .i64 se, .bool bu, c6, c7, c8, c9, c10, c11, c12, .int .i64 qu]) ∧ Rd W gA (ints gm)) (hb : ∀ x ∈ gm, -9223372036854775808 ≤ x ∧ x ≤ 9223372036854775807)
    (hIb : ∀ j W W', I j W → Below W.heap.size W W' → I j W') (hV : ∀ j W W' ms, I j W → Below W.heap.size W W' → tyMsg.Is W' (fun b => W.heap.size ≤ b) (reqD (id, (ge, gm), v, se, bu, o, n, qu) (gm.getD j 0)) ms → V j W' #[.agg ms.toArray]) (hM : ∀ j W, M j W → I (j + 1) W) :
    IterByV nn Try.prog 81 #[.pointer (some ⟨bp, 0, none⟩)] l V (fun j => j < N) I M := by
  intro J K Y h1 h2 h2' h3 hY W h0
  have Hx := hide hx
  clear hx
  refine callsIn_of_wp Try.func81 rfl trivial ?_ rfl
  simp only [Try.ntmps81, List.size_toArray, List.length_cons, List.length_nil, Nat.reduceAdd, Nat.reduceSub, Array.replicate_succ, Array.replicate_zero, List.push_toArray, List.append_toArray, List.nil_append, List.cons_append]
  obtain ⟨hB0, _, _⟩ := hI 0 W (h1 0 W h0)
  have c2 := hB0.cell (j := 2) rfl
  have H1 := hide h1
  have H2 := hide h2
  have H2' := hide h2'
  have H3 := hide h3
  have HI := hide hI
  have HIb := hide hIb
  have HV := hide hV
  have HM := hide hM
  have HY := hide hY
  have Hb := hide hb
  clear h1 h2 h2' h3 hI hM hY hV hIb hb hB0
  gi_wp2
  gi_loopw [9] (fun i wr => ∃ j : Nat, i = .int .i64 (j : Int) ∧ j ≤ N ∧ J j wr) (fun i _ => N - (intOf i).toNat)
  case atStart => exact ⟨0, rfl, Nat.zero_le _, h0⟩
  case round =>
    obtain ⟨j, rfl, hjN, hJ⟩ := hrel
    by_cases hlt : j < N
    · have hjl : j < gm.length := by rw [Hx.out]; exact hlt
      have hIj := H1.out j wr hJ
      obtain ⟨hB, ⟨R, iP⟩, hr⟩ := HI.out j wr hIj
      obtain ⟨a, ha, hc⟩ := hr j _ (ints_get hjl)
      subst ha
      have hxb := Hb.out _ (List.getElem_mem hjl)
      have hgd : gm.getD j 0 = gm[j] := by rw [List.getD_eq_getElem?_getD, List.getElem?_eq_getElem hjl]; rfl
      obtain ⟨x, hxx⟩ : ∃ x, gm[j] = x := ⟨_, rfl⟩
      rw [hxx] at hc hxb hgd
      have Hgd := hide hgd
      clear hxx hjl hgd
      gi_wp2_with (first | (with_reducible refine stop_loadIn 30 rfl ?_))
      refine go_loadIn rfl rfl (k := 0) rfl hB [.int .i64 id, .int .i64 ge, .slice (some a) N gc, .int .i64 v, .int .i64 se, .bool bu, c6, c7, c8, c9, c10, c11, c12, .int .i64 qu] rfl Try.underlying30 rfl (by kernel_rfl) ?_
      gi_wp2_with fail
      refine ⟨trivial, (callsIn_wide.2 (mreq_any iP hid hxb hL)).mono ?_⟩
      rintro xx w2 ⟨ms, rfl, iM, hd⟩
      have i2 := HIb.out j wr w2 hIj hd
      have j2 := H2'.out j wr w2 hJ (keeps24 hd) i2
      have hy0 := HY.out j w2 #[.agg ms.toArray] j2 hlt (HV.out j wr w2 ms hIj hd (by rw [Hgd.out]; exact iM))
      obtain ⟨fn, tmps, assign, body, hy, hR⟩ := hy0
      gi_wp2
      refine hR.mono ?_
      rintro e W3 (⟨rfl, hK3⟩ | ⟨rfl, hY3⟩)
      · have i3 := HM.out j W3 (H2.out j W3 hK3)
        have j3 := H3.out j W3 W3 hK3 (KeepsOthers.refl _) i3
        gi_wp2
        go_roundw
        case rel => exact ⟨j + 1, by go_num, by omega, j3⟩
        case measure => simp [intOf]; omega
      · gi_wp2
        refine bodyPost_ret (results_none rfl _ _ _) rfl ?_
        exact ⟨⟨_, rfl⟩, .inr hY3⟩
    · have q0 : decide ((j : Int) < (N : Int)) = false := decide_eq_false (by omega)
      have hNj : ¬ N > j := by omega
      gi_wp2
      refine bodyPost_end (results_none rfl _ _ _) rfl ?_
      exact ⟨⟨_, rfl⟩, .inl ⟨j, hJ, hlt⟩⟩
end Go.Proofs.Ytlcbelmbonaooaa
