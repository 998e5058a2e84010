/- A message loaded, in a region that draws. -/
import Derived.Test.YtnpobagipgephaaEntQ
import Derived.Test.YtnpobagipgephaaMsg
namespace Go.Proofs.Ytnpobagipgephaa
open Go.RowKit

/-- A message is loaded, in a region that draws. -/
theorem run_loadM {w : World} {dst : Option Tmp} {x : Operand} {ty : TypeId} {pos : String} {after : Array Edge} {guard : Option (Nat × Bool)} {ρ : Operand → Value} {g : Nat} {t : TypeId} {m : Msg} {A : Option Addr} {c : Nat}
    (K : Blk w g t (mcs m A c)) (hx : ρ x = .pointer (some ⟨g, 0, none⟩)) :
    (execOp ρ { dst, op := .load 30 x, type := ty, pos, after, guard }).run Try.prog w = .ok (.value (mv m A c)) w := by
  have := run_loadAt_mid (P := Try.prog) w g 0 30 (mcs m A c) _ K.range Try.underlying30 rfl (by kernel_rfl)
  unfold execOp
  simp only [hx, Sem.run_bind, this, Result.andThen_ok, Sem.run_pure]
  rfl
end Go.Proofs.Ytnpobagipgephaa
