/- Stage 24: clients within reach. -/
import Derived.Test.YtlcbelmbonaooaaF24u
import Derived.Test.YtlcbelmbonaooaaRea
namespace Go.Proofs.Ytlcbelmbonaooaa
set_option maxRecDepth 20000
open Go.RowKit Go.Px Go.Maps
set_option linter.unusedVariables false
theorem rchP_of {w : World} {Q : Nat → Prop} {x : ProxyD} {cs : List Value} (h : tyProxy.Is w Q x cs) (hl : ∀ u ∈ cs, ∀ A n c, u = .slice A n c → n ≤ 140737488351232) : RchP x := by
  obtain ⟨id, g, v, se, bu, o, n, qu, c1, c2, c6, c7, c8, c9, c10, c11, c12, rfl, rfl, -, -, -, -, hg, ho, hn⟩ := Proxy_parts h
  obtain ⟨gA, gn, gc, rfl, rfl, -, gl1, -⟩ := Group_cells hg
  obtain ⟨nA, nn, nc, rfl, rfl, -, nl1, -⟩ := Group_cells hn
  obtain ⟨dA, dn, dc, oA, oln, oc, rfl, rfl, rfl, rfl, rfl, -, dl1, ol1, -⟩ := Op_cells ho
  refine ⟨?_, ?_, ?_, ?_⟩
  · show g.2.length ≤ _
    rw [gl1]; exact hl (.slice gA gn gc) (by simp) _ _ _ rfl
  · show o.2.2.2.1.length ≤ _
    rw [dl1]; exact hl (.slice dA dn dc) (by simp) _ _ _ rfl
  · show o.2.2.2.2.length ≤ _
    rw [ol1]; exact hl (.slice oA oln oc) (by simp) _ _ _ rfl
  · show n.2.length ≤ _
    rw [nl1]; exact hl (.slice nA nn nc) (by simp) _ _ _ rfl
theorem opLen_of {w : World} {Q : Nat → Prop} {o : OpD} {cs : List Value} (h : tyOp.Is w Q o cs) (hl : ∀ u ∈ cs, ∀ A n c, u = .slice A n c → n ≤ 140737488351232) : o.2.2.2.1.length ≤ 140737488351232 ∧ o.2.2.2.2.length ≤ 140737488351232 := by
  obtain ⟨c0, c1, c2, c3, c4, rfl⟩ := list_5 (h.len : cs.length = 5)
  obtain ⟨dA, dn, dc, oA, oln, oc, rfl, rfl, rfl, rfl, rfl, -, dl1, ol1, -⟩ := Op_cells h
  exact ⟨by rw [dl1]; exact hl (.slice dA dn dc) (by simp) _ _ _ rfl, by rw [ol1]; exact hl (.slice oA oln oc) (by simp) _ _ _ rfl⟩
theorem grLen_of {w : World} {Q : Nat → Prop} {g : GroupD} {cs : List Value} (h : tyGroup.Is w Q g cs) (hl : ∀ u ∈ cs, ∀ A n c, u = .slice A n c → n ≤ 140737488351232) : g.2.length ≤ 140737488351232 := by
  obtain ⟨c0, c1, rfl⟩ := list_2 (h.len : cs.length = 2)
  obtain ⟨gA, gn, gc, rfl, rfl, -, gl1, -⟩ := Group_cells h
  rw [gl1]; exact hl (.slice gA gn gc) (by simp) _ _ _ rfl
theorem rch_two {o : OpD} {g : GroupD} (h : o.2.2.2.1.length ≤ 140737488351232 ∧ o.2.2.2.2.length ≤ 140737488351232) (h' : g.2.length ≤ 140737488351232) : RchP (0, zeroG, 0, 0, false, o, g, 0) := ⟨Nat.zero_le _, h.1, h.2, h'⟩
end Go.Proofs.Ytlcbelmbonaooaa
