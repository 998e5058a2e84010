/- An entry loaded in a region that draws. -/
import Derived.Test.YtkpgijmpaklfgaaEntZ
import Derived.Test.YtkpgijmpaklfgaaHeld2
import Derived.Test.YtkpgijmpaklfgaaOw
import Derived.Laws.StructEq
namespace Go.Proofs.Ytkpgijmpaklfgaa
open Go.RowKit

theorem rangeAt_below {w w' : World} {B b o : Nat} {xs : List Value} (h : w.rangeAt b o xs) (hb : Below B w w') (hlt : b < B) : w'.rangeAt b o xs := fun j v hv => (hb.cell (p := ⟨b, o + j, none⟩) hlt).trans (h j v hv)
theorem Blk.range {w : World} {g : Nat} {t : TypeId} {xs : List Value} (h : Blk w g t xs) : w.rangeAt g 0 xs := fun j v hv => by rw [Nat.zero_add]; exact h.cell hv
/-- An entry is loaded, in a region that draws. -/
theorem run_loadE {w : World} {dst : Option Tmp} {x : Operand} {ty : TypeId} {pos : String} {after : Array Edge} {guard : Option (Nat × Bool)} {ρ : Operand → Value} {b o : Nat} {e : Ent}
    (hr : w.rangeAt b o (ecs e)) (hx : ρ x = .pointer (some ⟨b, o, none⟩)) :
    (execOp ρ { dst, op := .load 30 x, type := ty, pos, after, guard }).run Try.prog w = .ok (.value (ev e)) w := by
  have := run_loadAt_mid (P := Try.prog) w b o 30 (ecs e) _ hr Try.underlying30 rfl (by kernel_rfl)
  unfold execOp
  simp only [hx, Sem.run_bind, this, Result.andThen_ok, Sem.run_pure]
  rfl

end Go.Proofs.Ytkpgijmpaklfgaa
