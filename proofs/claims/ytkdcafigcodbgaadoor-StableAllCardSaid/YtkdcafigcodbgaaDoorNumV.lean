/- One byte of a number. -/
import Derived.Test.YtkdcafigcodbgaaDoorRows
import Derived.Test.YtkdcafigcodbgaaDoorPlainNum
import Derived.Test.YtkdcafigcodbgaaDoorByte
import Derived.Lib.Zigzag
import Derived.Deep.DeepMust
import Derived.Laws.BitsAllLaws
namespace Go.Proofs.YtkdcafigcodbgaaDoor
open Go.RowKit

theorem seven_byte (u : Nat) : bits BinOp.or IntKind.u8 ((u : Int) % 256) 128 = ((u % 128 + 128 : Nat) : Int) := by
  rw [u8_or _ _ (by omega) (by omega) (by omega) (by omega)]
  have e : ((u : Int) % 256).toNat = u % 256 := by omega
  rw [e, show (128 : Int).toNat = 128 from rfl]
  have h := Nat.or_comm
  by_cases hb : u % 256 < 128
  · rw [h, nat_join7 128 (u % 256) (by decide) hb]; omega
  · have e2 : u % 256 = 128 + u % 128 := by omega
    have e3 : (128 + u % 128) = (128 ||| u % 128) := (nat_join7 128 (u % 128) (by decide) (by omega)).symm
    rw [e2, e3, h, ← Nat.or_assoc, Nat.or_self, ← e3]; omega
end Go.Proofs.YtkdcafigcodbgaaDoor
