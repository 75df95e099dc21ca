/- For every input within the form's reach the law ProxyTakes returns true, and each argument reads afterwards as it read before. -/
import Derived.Test.YtlcbelmbonaooaaRows
import Derived.Test.YtlcbelmbonaooaaW24t
import Derived.Test.YtlcbelmbonaooaaR24
namespace Go.Proofs.Ytlcbelmbonaooaa
set_option maxRecDepth 20000
open Go.ChangeShapes Go.WideShapes Go.ChangeAt Go.RowKit Go.Px Go.Joins Go.Deep
set_option linter.unusedVariables false
theorem rchM_of {w : World} {Q : Nat → Prop} {x : MsgD} {cs : List Value} (h : tyMsg.Is w Q x cs) (hl : ∀ u ∈ cs, ∀ A n c, u = .slice A n c → n ≤ 140737488351232) : RchM x := by
  obtain ⟨k, f, t, e, v, nu, cm, no, nc, cl, se, o, r, g, s, l, c11 , c12 , c13 , c14 , c15 , c16 , c17 , c18 , c19 , c20 , c21 , c22 , c23 , c24 , c25 , c26 , c27, rfl, rfl, ho, hr, hg, hs, hll, -⟩ := Msg_parts h
  obtain ⟨dA, dn, dc, qA, qn, qc, rfl, rfl, rfl, rfl, rfl, -, dl1, ol1, -⟩ := Op_cells ho
  obtain ⟨rA, rn, rc, rfl, rfl, -, rl1, -⟩ := Result_cells hr
  obtain ⟨mA, mn, mc, rfl, rfl, -, ml1, -⟩ := Group_cells hg
  obtain ⟨num, b, z, ps, rs, sg, pA, wA, pn, pc, wn, wc, vs, vs2, c5, c6, rfl, hsc, -, -, -, ⟨pl1, -⟩, ⟨wl1, -⟩, -⟩ := State_parts hs
  obtain ⟨lA, ln, lc, lv, rfl, ll1, -⟩ := Row_cell hll
  simp only [List.cons.injEq, and_true] at hsc
  obtain ⟨rfl, rfl, rfl, rfl, rfl, rfl, rfl⟩ := hsc
  refine ⟨?_, ?_, ?_, ?_, ?_, ?_, ?_⟩
  · show l.length ≤ _
    rw [ll1]; exact hl (.slice lA ln lc) (by simp) _ _ _ rfl
  · show ps.length ≤ _
    rw [pl1]; exact hl (.slice pA pn pc) (by simp) _ _ _ rfl
  · show rs.length ≤ _
    rw [wl1]; exact hl (.slice wA wn wc) (by simp) _ _ _ rfl
  · show g.2.length ≤ _
    rw [ml1]; exact hl (.slice mA mn mc) (by simp) _ _ _ rfl
  · show o.2.2.2.1.length ≤ _
    rw [dl1]; exact hl (.slice dA dn dc) (by simp) _ _ _ rfl
  · show o.2.2.2.2.length ≤ _
    rw [ol1]; exact hl (.slice qA qn qc) (by simp) _ _ _ rfl
  · show r.2.length ≤ _
    rw [rl1]; exact hl (.slice rA rn rc) (by simp) _ _ _ rfl

set_option maxRecDepth 100000 in
theorem proxyTakes_lifted (os : Os) (started : os.Started) (H : Type) (enc : TypeId × Value → H) :
    ReturnsInHanded {} Try.checked os 5 .any (Rows.proxyTakesSpec.pre6 enc Try.prog Try.f5 Rows.proxyTakesRow.domain false) (Rows.proxyTakesSpec.post enc Try.prog Try.f5 false true false false) := by
  refine returnsInHanded_of_change_sized (C := Try.checked) own started (by kernel_rfl) Try.func5
    (ChangeSpec.witness6 (enc := enc) (C := Try.checked) false ⟨#[], #[.agg #[.int .i64 0, .int .i64 0, .slice none 0 0, .int .i64 0, .int .i64 0, .bool false, .int .u8 0, .int .i64 0, .int .i64 0, .slice none 0 0, .slice none 0 0, .int .i64 0, .slice none 0 0, .int .i64 0], .agg #[.int .u8 0, .int .i64 0, .int .i64 0, .int .i64 0, .int .i64 0, .int .i64 0, .int .i64 0, .int .i64 0, .int .u64 0, .int .i64 0, .int .i64 0, .int .u8 0, .int .i64 0, .int .i64 0, .slice none 0 0, .slice none 0 0, .int .u8 0, .slice none 0 0, .int .i64 0, .slice none 0 0, .int .i64 0, .int .i64 0, .int .i64 0, .slice none 0 0, .slice none 0 0, .int .i64 0, .slice none 0 0, .slice none 0 0]], []⟩ 8 (by kernel_rfl) (by kernel_rfl) (by kernel_rfl) (by kernel_rfl)) ?_
  intro W base args ds gs before hval0 hW _ hsz _
  have hval : ∀ (j : Nat) t v, Try.f5.params[j]? = some t → args[j]? = some v → Value.okWide Try.prog W .any base t v := hval0
  have hW' := hW
  obtain ⟨p, q, hA0, hV, rfl, hfz, hnd⟩ := hW
  have hA : DataW.TrodAll enc Try.prog W 0 (fun _ => true) true Try.f5.params.toList args.toList ds p := hA0
  rw [Try.params5] at hA hval
  obtain ⟨v0, l0, d0, e0, p0, q0, ha0, rfl, rfl, h0, r0⟩ := trodAll_cons hA
  obtain ⟨v1, l1, d1, e1, p1, q1, rfl, rfl, rfl, h1, r1⟩ := trodAll_cons r0
  obtain ⟨rfl, rfl, rfl⟩ := trodAll_nil r1
  obtain rfl : args = #[v0, v1] := by cases args; simp_all
  obtain ⟨rfl, rfl⟩ := trodVars_none hV
  have L0 := light_any (t := tyProxy) (T := 30) (by kernel_rfl) (by kernel_rfl) h0 (weights_at hsz (j := 0) rfl rfl)
  have L1 := light_any (t := tyMsg) (T := 58) (by kernel_rfl) (by kernel_rfl) h1 (weights_at hsz (j := 1) rfl rfl)
  obtain ⟨⟨lpa⟩, rfl, _⟩ := okWide_struct Try.underlying30 (hval 0 30 v0 rfl rfl); obtain ⟨pa, hx0⟩ := open_any (t := tyProxy) (T := 30) (by kernel_rfl) h0; have hy0 : tyProxy.Is _ _ pa lpa := hx0
  obtain ⟨⟨lmg⟩, rfl, _⟩ := okWide_struct Try.underlying58 (hval 1 58 v1 rfl rfl); obtain ⟨mg, hx1⟩ := open_any (t := tyMsg) (T := 58) (by kernel_rfl) h1; have hy1 : tyMsg.Is _ _ mg lmg := hx1
  refine (proxyTakes_walk hy0 hy1 (rchP_of hy0 L0) (rchM_of hy1 L1)).mono fun e W' ⟨he, hb⟩ => ?_
  subst he
  exact ⟨_, rfl, law_post laidOut rfl rfl Try.underlying4 (fun t ht => (show ∀ t ∈ Try.f5.params.toList, Try.prog.readableRec t = true ∧ t < Try.prog.types.size from by decide +kernel) t ht) hW' rfl hb⟩

theorem proxyTakes_holds : Rows.ProxyTakesSaid :=
  OpenClaim.holds_of_wide 5 Try.f5 rfl rfl rfl rfl rfl rfl rfl ⟨rfl, rfl, rfl, rfl, rfl⟩ rfl rfl rfl rfl rfl (by kernel_rfl) Try.func5 (by kernel_rfl)
    (of_decide_eq_true (by kernel_rfl)) (by unfold Func.isWrapper; first | (rw [if_pos (by decide +kernel)]; kernel_rfl) | (rw [if_neg (by decide +kernel)]; exact ⟨rfl, rfl⟩))
    (fun os started H enc _ => proxyTakes_lifted os started H enc)
end Go.Proofs.Ytlcbelmbonaooaa
