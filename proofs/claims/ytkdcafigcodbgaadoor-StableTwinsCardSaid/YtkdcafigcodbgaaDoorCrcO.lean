/- What crc.Open answers, in plain words (its contract is XCrcD). -/
import Derived.Test.YtkdcafigcodbgaaDoorCrcC
namespace Go.Proofs.YtkdcafigcodbgaaDoor
open Go.RowKit

/-- What Open answers. -/
def openP (l : List Int) : List Int × Bool := if 4 ≤ l.length ∧ PCrc.sum (l.take (l.length - 4)) = PCrc.told (l.drop (l.length - 4)) then (l.take (l.length - 4), true) else ([], false)

/-- A slice with the bytes of the first, and whether there are any. -/
def OpenPost (w : World) (r : List Int × Bool) (e : Ending) (w' : World) : Prop :=
  ∃ A' c', e = .returned (.tuple #[.slice A' r.1.length c', .bool r.2]) ∧ Rd w' w'.heap.size A' c' 1 r.1.length (bs r.1) ∧ Below w.heap.size w w'

theorem openPost_no {w w' : World} {l : List Int} (h : openP l = ([], false)) (hb : Below w.heap.size w w') : OpenPost w (openP l) (.returned (.tuple #[.slice none 0 0, .bool false])) w' := by
  rw [h]; exact ⟨none, 0, rfl, Rd.nil _ _ _, hb⟩
end Go.Proofs.YtkdcafigcodbgaaDoor
