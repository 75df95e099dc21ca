/- The table of package crc, as a row lists it. -/
import Derived.Test.YtcpnobhdogpfiaaDoorCards
import Derived.Test.YtcpnobhdogpfiaaDoorTie
import Derived.Test.YtcpnobhdogpfiaaDoorF02a
import Derived.Deep.DeepHandedRow
import Derived.Lib.LaidTab
namespace Go.Proofs.YtcpnobhdogpfiaaDoor
set_option maxRecDepth 20000
open Go.ChangeShapes Go.WideShapes Go.ChangeAt Go.RowKit Go.Px
theorem gTab : Tryd.prog.globalNamed "plinth/crc.table" = some 0 := by kernel_rfl
theorem gTabType : (Tryd.prog.globals[0]?).map (·.type) = some 110 := by kernel_rfl
theorem cellsTab : Tryd.prog.cellsOf 110 = 16 := by kernel_rfl
theorem cellsU32 : Tryd.prog.cellsOf 33 = 1 := by kernel_rfl
def tabI : List Int := [0, 274646895, 549293790, 820201905, 1098587580, 1361435347, 1640403810, 1905808397, 2197175160, 2460548119, 2722870694, 2987750089, 3280807620, 3553878443, 3811616794, 4084100981]
theorem tab_of_laid {W : World} (h : laidMetH Tryd.prog [("plinth/crc.table", Rows.laid_plinth_crc_table)] W) : Tab W := by
  have hT : Lib.TabIs Tryd.prog W "plinth/crc.table" .u32 tabI := Lib.tabIs_of_head (rest := []) gTab gTabType Tryd.underlying110 Tryd.underlying33 cellsU32 cellsTab h
  have hv : tabV = tabI.map fun z => Value.int .u32 z := rfl
  intro j u hu
  have hj : j < 16 := by
    have := (List.getElem?_eq_some_iff.1 hu).1
    simpa [hv, tabI] using this
  refine ⟨_, rfl, ?_⟩
  have e : (⟨0, 0, none⟩ : Addr).add j = ⟨0, j, none⟩ := by unfold Addr.add; split <;> simp_all
  have hji : j < tabI.length := hj
  rw [e, hT.cell gTab j hji]
  rw [hv, List.getElem?_map, List.getElem?_eq_getElem hji, Option.map_some] at hu
  rw [← hu, List.getD, List.getElem?_eq_getElem hji, Option.getD_some]
/-- A world for the witness: the settled one, the table holding what its initialiser lays. -/
noncomputable def tabWorld (os : Os) : World :=
  { World.holding Tryd.prog os ⟨#[], #[], []⟩ with heap := (World.holding Tryd.prog os ⟨#[], #[], []⟩).heap.modify 0 fun
      | .cells _ t frozen => .cells (tabI.map fun z => Value.int .u32 z).toArray t frozen
      | o => o }
end Go.Proofs.YtcpnobhdogpfiaaDoor
