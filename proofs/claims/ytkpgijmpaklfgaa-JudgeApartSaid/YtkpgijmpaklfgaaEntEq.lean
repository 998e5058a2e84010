/- Contract of entry.Eq. -/
import Derived.Test.YtkpgijmpaklfgaaEntM
import Derived.Test.YtkpgijmpaklfgaaRows
import Derived.Test.YtkpgijmpaklfgaaEnt
import Derived.Test.YtkpgijmpaklfgaaHeld
import Derived.Laws.StructEq
namespace Go.Proofs.Ytkpgijmpaklfgaa
open Go.RowKit

set_option maxRecDepth 100000 in
theorem Eq_c (w : World) (a b : Ent) : Calls Try.prog 25 #[ev a, ev b] w fun x w' => x = .returned (.bool (PEnt.eqE a b)) ∧ Below w.heap.size w w' := by
  obtain ⟨fr0, boot0, seq0, ord0, lev0, stamp0, data0⟩ := a
  obtain ⟨fr1, boot1, seq1, ord1, lev1, stamp1, data1⟩ := b
  have HS := Lib.hid (show PEnt.eqE ⟨fr0, boot0, seq0, ord0, lev0, stamp0, data0⟩ ⟨fr1, boot1, seq1, ord1, lev1, stamp1, data1⟩ = (fr0 == fr1 && boot0 == boot1 && seq0 == seq1 && ord0 == ord1 && lev0 == lev1 && stamp0 == stamp1 && data0.toList == data1.toList) from rfl)
  cases q0 : (fr0 == fr1)
  · show Calls _ _ #[.agg #[.int .i64 fr0, .int .i64 boot0, .int .i64 seq0, .int .i64 ord0, .int .i64 lev0, .int .i64 stamp0, .string data0], .agg #[.int .i64 fr1, .int .i64 boot1, .int .i64 seq1, .int .i64 ord1, .int .i64 lev1, .int .i64 stamp1, .string data1]] _ _
    go_enter Try.func25, Try.ntmps25
    go_wp2_with fail
    go_ret
    exact ⟨by rw [HS.out]; simp [q0], ((Below.refl _ _).alloc (Nat.le_refl _) _).alloc (by simp) _⟩
  cases q1 : (boot0 == boot1)
  · show Calls _ _ #[.agg #[.int .i64 fr0, .int .i64 boot0, .int .i64 seq0, .int .i64 ord0, .int .i64 lev0, .int .i64 stamp0, .string data0], .agg #[.int .i64 fr1, .int .i64 boot1, .int .i64 seq1, .int .i64 ord1, .int .i64 lev1, .int .i64 stamp1, .string data1]] _ _
    go_enter Try.func25, Try.ntmps25
    go_wp2_with fail
    go_ret
    exact ⟨by rw [HS.out]; simp [q0, q1], ((Below.refl _ _).alloc (Nat.le_refl _) _).alloc (by simp) _⟩
  cases q2 : (seq0 == seq1)
  · show Calls _ _ #[.agg #[.int .i64 fr0, .int .i64 boot0, .int .i64 seq0, .int .i64 ord0, .int .i64 lev0, .int .i64 stamp0, .string data0], .agg #[.int .i64 fr1, .int .i64 boot1, .int .i64 seq1, .int .i64 ord1, .int .i64 lev1, .int .i64 stamp1, .string data1]] _ _
    go_enter Try.func25, Try.ntmps25
    go_wp2_with fail
    go_ret
    exact ⟨by rw [HS.out]; simp [q0, q1, q2], ((Below.refl _ _).alloc (Nat.le_refl _) _).alloc (by simp) _⟩
  cases q3 : (ord0 == ord1)
  · show Calls _ _ #[.agg #[.int .i64 fr0, .int .i64 boot0, .int .i64 seq0, .int .i64 ord0, .int .i64 lev0, .int .i64 stamp0, .string data0], .agg #[.int .i64 fr1, .int .i64 boot1, .int .i64 seq1, .int .i64 ord1, .int .i64 lev1, .int .i64 stamp1, .string data1]] _ _
    go_enter Try.func25, Try.ntmps25
    go_wp2_with fail
    go_ret
    exact ⟨by rw [HS.out]; simp [q0, q1, q2, q3], ((Below.refl _ _).alloc (Nat.le_refl _) _).alloc (by simp) _⟩
  cases q4 : (lev0 == lev1)
  · show Calls _ _ #[.agg #[.int .i64 fr0, .int .i64 boot0, .int .i64 seq0, .int .i64 ord0, .int .i64 lev0, .int .i64 stamp0, .string data0], .agg #[.int .i64 fr1, .int .i64 boot1, .int .i64 seq1, .int .i64 ord1, .int .i64 lev1, .int .i64 stamp1, .string data1]] _ _
    go_enter Try.func25, Try.ntmps25
    go_wp2_with fail
    go_ret
    exact ⟨by rw [HS.out]; simp [q0, q1, q2, q3, q4], ((Below.refl _ _).alloc (Nat.le_refl _) _).alloc (by simp) _⟩
  cases q5 : (stamp0 == stamp1)
  · show Calls _ _ #[.agg #[.int .i64 fr0, .int .i64 boot0, .int .i64 seq0, .int .i64 ord0, .int .i64 lev0, .int .i64 stamp0, .string data0], .agg #[.int .i64 fr1, .int .i64 boot1, .int .i64 seq1, .int .i64 ord1, .int .i64 lev1, .int .i64 stamp1, .string data1]] _ _
    go_enter Try.func25, Try.ntmps25
    go_wp2_with fail
    go_ret
    exact ⟨by rw [HS.out]; simp [q0, q1, q2, q3, q4, q5], ((Below.refl _ _).alloc (Nat.le_refl _) _).alloc (by simp) _⟩
  cases q6 : (data0.toList == data1.toList)
  · show Calls _ _ #[.agg #[.int .i64 fr0, .int .i64 boot0, .int .i64 seq0, .int .i64 ord0, .int .i64 lev0, .int .i64 stamp0, .string data0], .agg #[.int .i64 fr1, .int .i64 boot1, .int .i64 seq1, .int .i64 ord1, .int .i64 lev1, .int .i64 stamp1, .string data1]] _ _
    go_enter Try.func25, Try.ntmps25
    go_wp2_with fail
    go_ret
    exact ⟨by rw [HS.out]; simp [q0, q1, q2, q3, q4, q5, q6], ((Below.refl _ _).alloc (Nat.le_refl _) _).alloc (by simp) _⟩
  show Calls _ _ #[.agg #[.int .i64 fr0, .int .i64 boot0, .int .i64 seq0, .int .i64 ord0, .int .i64 lev0, .int .i64 stamp0, .string data0], .agg #[.int .i64 fr1, .int .i64 boot1, .int .i64 seq1, .int .i64 ord1, .int .i64 lev1, .int .i64 stamp1, .string data1]] _ _
  go_enter Try.func25, Try.ntmps25
  go_wp2_with fail
  go_ret
  exact ⟨by rw [HS.out]; simp [q0, q1, q2, q3, q4, q5, q6], ((Below.refl _ _).alloc (Nat.le_refl _) _).alloc (by simp) _⟩

end Go.Proofs.Ytkpgijmpaklfgaa
