/- Stage 24: a message, opened one level only (written by gen_24j.py). -/
import Derived.Test.YtlcbelmbonaooaaF24h
namespace Go.Px
open Go.RowKit
set_option linter.unusedVariables false
set_option maxRecDepth 20000 in
set_option maxHeartbeats 3200000 in
theorem Msg_parts {w : World} {Q : Nat → Prop} {x : MsgD} {cs : List Value} (h : tyMsg.Is w Q x cs) :
    ∃ (k : Nat) (f t e v nu cm no : Int) (nc : Nat) (cl se : Int) (o : OpD) (r : ResultD) (g : GroupD) (s : StateD) (l : List EntryD) (c11 c12 c13 c14 c15 c16 c17 c18 c19 c20 c21 c22 c23 c24 c25 c26 c27 : Value),
      x = (k, f, t, e, v, nu, cm, no, nc, cl, se, o, r, g, s, l) ∧ cs = [.int .u8 k, .int .i64 f, .int .i64 t, .int .i64 e, .int .i64 v, .int .i64 nu, .int .i64 cm, .int .i64 no, .int .u64 nc, .int .i64 cl, .int .i64 se, c11, c12, c13, c14, c15, c16, c17, c18, c19, c20, c21, c22, c23, c24, c25, c26, c27] ∧ tyOp.Is w Q o [c11, c12, c13, c14, c15] ∧ tyResult.Is w Q r [c16, c17] ∧ tyGroup.Is w Q g [c18, c19] ∧ tyState.Is w Q s [c20, c21, c22, c23, c24, c25, c26] ∧ (Ty.row tyEntry).Is w Q l [c27] ∧
      (∀ (W : World) (Q' : Nat → Prop) (d11 d12 d13 d14 d15 d16 d17 d18 d19 d20 d21 d22 d23 d24 d25 d26 d27 : Value), tyOp.Is W Q' o [d11, d12, d13, d14, d15] → tyResult.Is W Q' r [d16, d17] → tyGroup.Is W Q' g [d18, d19] → tyState.Is W Q' s [d20, d21, d22, d23, d24, d25, d26] → (Ty.row tyEntry).Is W Q' l [d27] → tyMsg.Is W Q' (k, f, t, e, v, nu, cm, no, nc, cl, se, o, r, g, s, l) [.int .u8 k, .int .i64 f, .int .i64 t, .int .i64 e, .int .i64 v, .int .i64 nu, .int .i64 cm, .int .i64 no, .int .u64 nc, .int .i64 cl, .int .i64 se, d11, d12, d13, d14, d15, d16, d17, d18, d19, d20, d21, d22, d23, d24, d25, d26, d27]) := by
  obtain ⟨c0, c1, c2, c3, c4, c5, c6, c7, c8, c9, c10, c11, c12, c13, c14, c15, c16, c17, c18, c19, c20, c21, c22, c23, c24, c25, c26, c27, rfl⟩ := list_28 (h.len : cs.length = 28)
  obtain ⟨k, f, t, e, v, nu, cm, no, nc, cl, se, o, r, g, s, l⟩ := x
  obtain ⟨⟨rfl, q0⟩, ⟨rfl, q1⟩, ⟨rfl, q2⟩, ⟨rfl, q3⟩, ⟨rfl, q4⟩, ⟨rfl, q5⟩, ⟨rfl, q6⟩, ⟨rfl, q7⟩, ⟨rfl, q8⟩, ⟨rfl, q9⟩, ⟨rfl, q10⟩, ho, hr, hg, hs, hl⟩ := h
  exact ⟨k, f, t, e, v, nu, cm, no, nc, cl, se, o, r, g, s, l, c11, c12, c13, c14, c15, c16, c17, c18, c19, c20, c21, c22, c23, c24, c25, c26, c27, rfl, rfl, ho, hr, hg, hs, hl, fun W Q' d11 d12 d13 d14 d15 d16 d17 d18 d19 d20 d21 d22 d23 d24 d25 d26 d27 jo jr jg js jl => ⟨⟨rfl, q0⟩, ⟨rfl, q1⟩, ⟨rfl, q2⟩, ⟨rfl, q3⟩, ⟨rfl, q4⟩, ⟨rfl, q5⟩, ⟨rfl, q6⟩, ⟨rfl, q7⟩, ⟨rfl, q8⟩, ⟨rfl, q9⟩, ⟨rfl, q10⟩, jo, jr, jg, js, jl⟩⟩
end Go.Px
namespace Go.Proofs.Ytlcbelmbonaooaa
set_option maxRecDepth 20000
open Go.RowKit Go.Px Go.Maps
set_option linter.unusedVariables false
theorem cloneGr_any {w : World} {Q : Nat → Prop} {x : GroupD} {cs : List Value} (h : tyGroup.Is w Q x cs) (h8 : x.2.length ≤ 1099511627776) :
    Calls Try.prog 50 #[.agg cs.toArray] w fun e w' => ∃ ds, e = .returned (.agg ds.toArray) ∧ tyGroup.Is w' (fun b => w.heap.size ≤ b) x ds ∧ Below w.heap.size w w' := by
  obtain ⟨gEpoch, gMembers, gMembersA, gMembersn, gMembersc, gMembersv, rfl, rfl, h1_gEpoch, h2_gEpoch, hl_gMembers, hc_gMembers, hm_gMembers, hr_gMembers, hq_gMembers, he_gMembers⟩ := Group_out h
  obtain ⟨hmi, hri⟩ := i64rows he_gMembers
  subst hmi
  simp only at h8
  refine (cloneG_any gEpoch gMembersA gMembersn gMembersc gMembers w hl_gMembers (by rw [← hl_gMembers]; exact h8) hr_gMembers).mono ?_
  rintro xx w1 ⟨A1, c1, rfl, hc1, hm1, hr1, ha1, hd1⟩
  exact ⟨[.int .i64 gEpoch, .slice A1 gMembersn c1], rfl, Group_mk h1_gEpoch h2_gEpoch hl_gMembers hc1 hm1 hr1 (fun _ a ha => ha1 a ha) (i64rows_mk hri), hd1⟩
theorem cloneRe_any {w : World} {Q : Nat → Prop} {x : ResultD} {cs : List Value} (h : tyResult.Is w Q x cs) (h8 : x.2.length ≤ 262144) :
    Calls Try.prog 48 #[.agg cs.toArray] w fun e w' => ∃ ds, e = .returned (.agg ds.toArray) ∧ tyResult.Is w' (fun b => w.heap.size ≤ b) x ds ∧ Below w.heap.size w w' := by
  obtain ⟨gCode, gData, gDataA, gDatan, gDatac, rfl, rfl, hu_gCode, hl_gData, hc_gData, hm_gData, hr_gData, hq_gData⟩ := Result_out h
  simp only at h8
  refine (cloneR_any gCode gDataA gDatan gDatac gData w hl_gData (by rw [← hl_gData]; exact h8) hr_gData).mono ?_
  rintro xx w1 ⟨A1, c1, rfl, hc1, hm1, hr1, ha1, hd1⟩
  exact ⟨[.int .u8 gCode, .slice A1 gDatan c1], rfl, Result_mk hu_gCode hl_gData hc1 hm1 hr1 (fun _ a ha => ha1 a ha), hd1⟩
end Go.Proofs.Ytlcbelmbonaooaa
