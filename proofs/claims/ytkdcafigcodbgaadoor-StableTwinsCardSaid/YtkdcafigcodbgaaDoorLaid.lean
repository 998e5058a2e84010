/- What the rows' condition on the listed variables gives: the table of crc lies as it is declared. -/
import Derived.Test.YtkdcafigcodbgaaDoorCrcA
import Derived.Lib.LaidTab
import Derived.LaidMore
namespace Go.Proofs.YtkdcafigcodbgaaDoor
open Go.RowKit

/-- What the walks ask of the listed variables. -/
def LaidIs (w : World) : Prop := Tab w

theorem laidIs_of {W : World} (h : laidMetH Tryd.prog [("curfew/crc.halves", Rows.laid_curfew_crc_halves)] W) : LaidIs W := by
  rw [MakeChecks.laidMetH_plain _ _ _ (by kernel_rfl)] at h
  have hT : Lib.TabIs Tryd.prog W "curfew/crc.halves" .u32 (PCrc.tab.map fun n : Nat => (n : Int)) :=
    Lib.tabIs_of_head (g := 0) (t := 58) (e := 50) (n := 16) (rest := []) (by kernel_rfl) (by kernel_rfl) Tryd.underlying58 Tryd.underlying50 (by kernel_rfl) (by kernel_rfl) h
  intro j hj
  have := hT.cell (g := 0) (by kernel_rfl) j (by simpa [PCrc.tab] using hj)
  rw [this]
  simp [List.getD, List.getElem?_map]
  cases PCrc.tab[j]? <;> simp

end Go.Proofs.YtkdcafigcodbgaaDoor
