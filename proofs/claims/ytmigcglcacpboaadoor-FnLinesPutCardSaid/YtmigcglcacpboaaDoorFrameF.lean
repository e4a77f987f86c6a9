/- What the frames of the laws that read the table of figures share: the witness's world, the table's cells. -/
import Derived.Test.YtmigcglcacpboaaDoorFrameO
import Derived.Test.YtmigcglcacpboaaDoorFigs
import Derived.Test.YtmigcglcacpboaaDoorShelf
import Derived.Lib.LaidTab
import Derived.Lib.LaidU8
import Derived.MakeChecks
import Derived.OpenVars
import Derived.ChangeVars
namespace Go.Proofs.YtmigcglcacpboaaDoor
open Go Go.ChangeShapes Go.WideShapes Go.ChangeAt Go.RowKit

noncomputable def laidWorldF (os : Os) : World :=
  { laidWorld os with heap := (laidWorld os).heap.modify 0 (filled (cells2 Rows.laid_loop_example_satchel_impl_figures)) }

def figZs : List Int := figR.map fun c => (c.toNat : Int)
theorem figData : (Rows.laid_loop_example_satchel_impl_figures : DataW Unit) = Lib.tabData .u8 figZs := by rfl
theorem figName : Tryd.prog.globalNamed "loop.example/satchel/impl.figures" = some 0 := by kernel_rfl
theorem figType : (Tryd.prog.globals[0]?).map (·.type) = some 71 := by kernel_rfl
theorem figCellsOf : Tryd.prog.cellsOf 71 = 64 := by kernel_rfl
theorem byteCellsOf : Tryd.prog.cellsOf 5 = 1 := by kernel_rfl

/-- The table's cells, in whatever world holds what is laid. -/
theorem figCell_of {l : List (String × DataW Unit)} {W : World} (h : laidMetH Tryd.prog l W) (hp : (l.all fun x => x.2.handleName?.isNone) = true) (hm : ("loop.example/satchel/impl.figures", (Rows.laid_loop_example_satchel_impl_figures : DataW Unit)) ∈ l) : FigCell W := by
  rw [MakeChecks.laidMetH_plain _ _ _ hp] at h
  obtain ⟨g, t, cs, fuel, p, hg, ht, hvar, hd⟩ := Lib.laidMet.reads h hm
  obtain rfl := Option.some.inj (figName.symm.trans hg)
  obtain rfl := Option.some.inj (figType.symm.trans ht)
  rw [figData] at hd
  have hcs := Lib.cells_of_tab Tryd.underlying71 Tryd.underlying5 byteCellsOf figCellsOf hd
  intro v hv
  have hc := World.var?_cell figName hvar v
  rw [hc, ← Array.getElem?_toList, hcs]
  have hz : figZs[v]? = some ((figC v).toNat : Int) := by
    unfold figZs
    rw [List.getElem?_map, figC_get hv]; rfl
  rw [List.getElem?_map, hz]; rfl
/-- bytealg.MaxLen's cell holds an int, in every world of the program's shape. -/
theorem maxLen_cell (w : World) (h : w.ShapedOpen Tryd.prog) : ∃ m : Int, w.cell? ⟨1, 0, none⟩ = some (.int .i64 m) := Tryd.laysM219.s1_3 w h
end Go.Proofs.YtmigcglcacpboaaDoor
