/- Contracts of Same and Eq, of the program and of the document. -/
import Derived.Test.YtnpobagipgephaaEntM
import Derived.Test.YtnpobagipgephaaRows
import Derived.Test.YtnpobagipgephaaEnt
import Derived.Test.YtnpobagipgephaaHeld
import Derived.Laws.StructEq
namespace Go.Proofs.Ytnpobagipgephaa
open Go.RowKit

set_option maxRecDepth 100000 in
theorem Same_c (w : World) (a b : Ent) : Calls Try.prog 44 #[ev a, ev b] w fun x w' => x = .returned (.bool (PEnt.same a b)) ∧ Below w.heap.size w w' := by
  obtain ⟨fr0, boot0, seq0, ord0, lev0, stamp0, data0⟩ := a
  obtain ⟨fr1, boot1, seq1, ord1, lev1, stamp1, data1⟩ := b
  have HS := Lib.hid (show PEnt.same ⟨fr0, boot0, seq0, ord0, lev0, stamp0, data0⟩ ⟨fr1, boot1, seq1, ord1, lev1, stamp1, data1⟩ = (fr0 == fr1 && boot0 == boot1 && seq0 == seq1) from rfl)
  cases q0 : (fr0 == fr1)
  · show Calls _ _ #[.agg #[.int .i64 fr0, .int .i64 boot0, .int .i64 seq0, .int .i64 ord0, .int .i64 lev0, .int .i64 stamp0, .string data0], .agg #[.int .i64 fr1, .int .i64 boot1, .int .i64 seq1, .int .i64 ord1, .int .i64 lev1, .int .i64 stamp1, .string data1]] _ _
    go_enter Try.func44, Try.ntmps44
    go_wp2_with fail
    go_ret
    exact ⟨by rw [HS.out]; simp [q0], ((Below.refl _ _).alloc (Nat.le_refl _) _).alloc (by simp) _⟩
  cases q1 : (boot0 == boot1)
  · show Calls _ _ #[.agg #[.int .i64 fr0, .int .i64 boot0, .int .i64 seq0, .int .i64 ord0, .int .i64 lev0, .int .i64 stamp0, .string data0], .agg #[.int .i64 fr1, .int .i64 boot1, .int .i64 seq1, .int .i64 ord1, .int .i64 lev1, .int .i64 stamp1, .string data1]] _ _
    go_enter Try.func44, Try.ntmps44
    go_wp2_with fail
    go_ret
    exact ⟨by rw [HS.out]; simp [q0, q1], ((Below.refl _ _).alloc (Nat.le_refl _) _).alloc (by simp) _⟩
  cases q2 : (seq0 == seq1)
  · show Calls _ _ #[.agg #[.int .i64 fr0, .int .i64 boot0, .int .i64 seq0, .int .i64 ord0, .int .i64 lev0, .int .i64 stamp0, .string data0], .agg #[.int .i64 fr1, .int .i64 boot1, .int .i64 seq1, .int .i64 ord1, .int .i64 lev1, .int .i64 stamp1, .string data1]] _ _
    go_enter Try.func44, Try.ntmps44
    go_wp2_with fail
    go_ret
    exact ⟨by rw [HS.out]; simp [q0, q1, q2], ((Below.refl _ _).alloc (Nat.le_refl _) _).alloc (by simp) _⟩
  show Calls _ _ #[.agg #[.int .i64 fr0, .int .i64 boot0, .int .i64 seq0, .int .i64 ord0, .int .i64 lev0, .int .i64 stamp0, .string data0], .agg #[.int .i64 fr1, .int .i64 boot1, .int .i64 seq1, .int .i64 ord1, .int .i64 lev1, .int .i64 stamp1, .string data1]] _ _
  go_enter Try.func44, Try.ntmps44
  go_wp2_with fail
  go_ret
  exact ⟨by rw [HS.out]; simp [q0, q1, q2], ((Below.refl _ _).alloc (Nat.le_refl _) _).alloc (by simp) _⟩

end Go.Proofs.Ytnpobagipgephaa
