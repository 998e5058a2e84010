/- A law's gram, behind a write of another block. -/
import Derived.Test.YtfijjdahoimoeaaDoorSeg8
namespace Go.Proofs.YtfijjdahoimoeaaDoor
open Go.RowKit

section
variable {w0 w w' : World} {g : Nat} {me : Int} {L : List Oth}
/-- Another block of the law's was written. -/
theorem Gs.other (h : Gs w0 w g me L) {x : Nat} {t : TypeId} {xs : List Value} (k : Blk w x t xs) (hne : t ≠ 60) (hx : w0.heap.size ≤ x) (hg : w.grownBy w' (some x)) : Gs w0 w' g me L :=
  ⟨h.bel.trans (grown_below hg hx h.bel.size), h.own, h.gm.far (Touch.of_grown hg) (by simpa using fun e => k.ne h.gm.1 hne e.symm)⟩
end
end Go.Proofs.YtfijjdahoimoeaaDoor

