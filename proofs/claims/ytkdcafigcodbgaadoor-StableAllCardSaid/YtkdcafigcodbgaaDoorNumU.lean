/- Contract of unfold. -/
import Derived.Test.YtkdcafigcodbgaaDoorNumV
namespace Go.Proofs.YtkdcafigcodbgaaDoor
open Go.RowKit

theorem unfold_c (u : Nat) (w : World) (h2 : u < 18446744073709551616) :
    Calls Tryd.prog 32 #[.int .u64 u] w fun e w' => e = .returned (.int .i64 (PNum.unzig u)) ∧ w = w' := by
  have key : bits BinOp.xor IntKind.i64 ((u : Int) / 2) (wrap64 (-wrap64 (bits BinOp.and IntKind.u64 (↑u) 1))) = PNum.unzig u := by
    rw [Lib.u64_and1 _ (by omega) (by omega)]
    by_cases hn : u % 2 = 0
    · have e : (u : Int) % 2 = 0 := by omega
      have e1 : ((u : Int) / 2) = ((u / 2 : Nat) : Int) := by omega
      rw [e, e1, show wrap64 (-wrap64 0) = 0 from by unfold wrap64; decide]
      unfold PNum.unzig; rw [if_pos hn]
      show IntKind.i64.wrap ((BitVec.ofInt 64 ((u / 2 : Nat) : Int) ^^^ BitVec.ofInt 64 0).toNat : Int) = _
      have h2 : (BitVec.ofInt 64 ((u / 2 : Nat) : Int)).toNat = u / 2 := by
        rw [BitVec.ofInt_natCast, BitVec.toNat_ofNat]; exact Nat.mod_eq_of_lt (by omega)
      have h3 : (BitVec.ofInt 64 0).toNat = 0 := by decide
      rw [BitVec.toNat_xor, h2, h3, Nat.xor_zero, IntKind.wrap_i64]; omega
    · have e : (u : Int) % 2 = 1 := by omega
      have e1 : ((u : Int) / 2) = ((u / 2 : Nat) : Int) := by omega
      have e2 : wrap64 (-wrap64 1) = -1 := by unfold wrap64; decide
      rw [e, e1, e2]
      unfold PNum.unzig; rw [if_neg hn]
      have := Lib.i64_not (u / 2) (by omega)
      rw [← this]
      show IntKind.i64.wrap ((BitVec.ofInt 64 ((u / 2 : Nat) : Int) ^^^ BitVec.ofInt 64 (-1)).toNat : Int) = IntKind.i64.wrap ((BitVec.ofInt 64 (-1) ^^^ BitVec.ofInt 64 ((u / 2 : Nat) : Int)).toNat : Int)
      rw [BitVec.xor_comm]
  have K := Lib.hid key; clear key
  go_enter Tryd.func32, Tryd.ntmps32
  go_wp2
  go_ret
  exact ⟨congrArg (fun x => Ending.returned (.int .i64 x)) K.out, rfl⟩

end Go.Proofs.YtkdcafigcodbgaaDoor
