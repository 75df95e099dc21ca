/- Stage 24: clients within reach. -/
import Derived.Test.YtlcbelmbonaooaaF24u
import Derived.Test.YtlcbelmbonaooaaRea
namespace Go.Proofs.Ytlcbelmbonaooaa
set_option maxRecDepth 20000
open Go.RowKit Go.Px Go.Maps
set_option linter.unusedVariables false
theorem rchP_of {w : World} {Q : Nat → Prop} {x : ProxyD} {cs : List Value} (h : tyProxy.Is w Q x cs) (hl : ∀ u ∈ cs, ∀ A n c, u = .slice A n c → n ≤ 140737488351232) : RchP x := by
  obtain ⟨id, g, v, se, bu, o, n, qu, c1, c2, c6, c7, c8, c9, c10, c11, c12, rfl, rfl, -, -, -, -, hg, ho, hn⟩ := Proxy_parts h
  obtain ⟨gA, gn, gc, rfl, rfl, -, gl1, -⟩ := Group_cells hg
  obtain ⟨nA, nn, nc, rfl, rfl, -, nl1, -⟩ := Group_cells hn
  obtain ⟨dA, dn, dc, oA, oln, oc, rfl, rfl, rfl, rfl, rfl, -, dl1, ol1, -⟩ := Op_cells ho
  refine ⟨?_, ?_, ?_, ?_⟩
  · show g.2.length ≤ _
    rw [gl1]; exact hl (.slice gA gn gc) (by simp) _ _ _ rfl
  · show o.2.2.2.1.length ≤ _
    rw [dl1]; exact hl (.slice dA dn dc) (by simp) _ _ _ rfl
  · show o.2.2.2.2.length ≤ _
    rw [ol1]; exact hl (.slice oA oln oc) (by simp) _ _ _ rfl
  · show n.2.length ≤ _
    rw [nl1]; exact hl (.slice nA nn nc) (by simp) _ _ _ rfl
end Go.Proofs.Ytlcbelmbonaooaa
