/- Contracts of the document's Same and Eq. -/
import Derived.Test.YtkpgijmpaklfgaaRows
import Derived.Test.YtkpgijmpaklfgaaEnt
import Derived.Test.YtkpgijmpaklfgaaHeld
import Derived.Laws.StructEq
namespace Go.Proofs.Ytkpgijmpaklfgaa
open Go.RowKit

set_option maxRecDepth 100000 in
theorem rSame_c (w : World) (a b : Ent) : Calls Try.prog 11 #[ev a, ev b] w fun x w' => x = .returned (.bool (PEnt.same a b)) ∧ Below w.heap.size w w' := by
  obtain ⟨fr0, boot0, seq0, ord0, lev0, stamp0, data0⟩ := a
  obtain ⟨fr1, boot1, seq1, ord1, lev1, stamp1, data1⟩ := b
  have HS := Lib.hid (show PEnt.same ⟨fr0, boot0, seq0, ord0, lev0, stamp0, data0⟩ ⟨fr1, boot1, seq1, ord1, lev1, stamp1, data1⟩ = (fr0 == fr1 && boot0 == boot1 && seq0 == seq1) from rfl)
  cases q0 : (fr0 == fr1)
  · show Calls _ _ #[.agg #[.int .i64 fr0, .int .i64 boot0, .int .i64 seq0, .int .i64 ord0, .int .i64 lev0, .int .i64 stamp0, .string data0], .agg #[.int .i64 fr1, .int .i64 boot1, .int .i64 seq1, .int .i64 ord1, .int .i64 lev1, .int .i64 stamp1, .string data1]] _ _
    go_enter Try.func11, Try.ntmps11
    go_wp2_with fail
    go_ret
    exact ⟨by rw [HS.out]; simp [q0], ((Below.refl _ _).alloc (Nat.le_refl _) _).alloc (by simp) _⟩
  cases q1 : (boot0 == boot1)
  · show Calls _ _ #[.agg #[.int .i64 fr0, .int .i64 boot0, .int .i64 seq0, .int .i64 ord0, .int .i64 lev0, .int .i64 stamp0, .string data0], .agg #[.int .i64 fr1, .int .i64 boot1, .int .i64 seq1, .int .i64 ord1, .int .i64 lev1, .int .i64 stamp1, .string data1]] _ _
    go_enter Try.func11, Try.ntmps11
    go_wp2_with fail
    go_ret
    exact ⟨by rw [HS.out]; simp [q0, q1], ((Below.refl _ _).alloc (Nat.le_refl _) _).alloc (by simp) _⟩
  cases q2 : (seq0 == seq1)
  · show Calls _ _ #[.agg #[.int .i64 fr0, .int .i64 boot0, .int .i64 seq0, .int .i64 ord0, .int .i64 lev0, .int .i64 stamp0, .string data0], .agg #[.int .i64 fr1, .int .i64 boot1, .int .i64 seq1, .int .i64 ord1, .int .i64 lev1, .int .i64 stamp1, .string data1]] _ _
    go_enter Try.func11, Try.ntmps11
    go_wp2_with fail
    go_ret
    exact ⟨by rw [HS.out]; simp [q0, q1, q2], ((Below.refl _ _).alloc (Nat.le_refl _) _).alloc (by simp) _⟩
  show Calls _ _ #[.agg #[.int .i64 fr0, .int .i64 boot0, .int .i64 seq0, .int .i64 ord0, .int .i64 lev0, .int .i64 stamp0, .string data0], .agg #[.int .i64 fr1, .int .i64 boot1, .int .i64 seq1, .int .i64 ord1, .int .i64 lev1, .int .i64 stamp1, .string data1]] _ _
  go_enter Try.func11, Try.ntmps11
  go_wp2_with fail
  go_ret
  exact ⟨by rw [HS.out]; simp [q0, q1, q2], ((Below.refl _ _).alloc (Nat.le_refl _) _).alloc (by simp) _⟩

set_option maxRecDepth 100000 in
theorem rEq_c (w : World) (a b : Ent) : Calls Try.prog 19 #[ev a, ev b] w fun x w' => x = .returned (.bool (PEnt.eqE a b)) ∧ Below w.heap.size w w' := by
  have KS := Lib.hid (fun w => rSame_c w a b)
  obtain ⟨fr0, boot0, seq0, ord0, lev0, stamp0, data0⟩ := a
  obtain ⟨fr1, boot1, seq1, ord1, lev1, stamp1, data1⟩ := b
  have HS := Lib.hid (show PEnt.eqE ⟨fr0, boot0, seq0, ord0, lev0, stamp0, data0⟩ ⟨fr1, boot1, seq1, ord1, lev1, stamp1, data1⟩ = (fr0 == fr1 && boot0 == boot1 && seq0 == seq1 && ord0 == ord1 && lev0 == lev1 && stamp0 == stamp1 && data0.toList == data1.toList) from rfl)
  have HP := Lib.hid (show PEnt.same ⟨fr0, boot0, seq0, ord0, lev0, stamp0, data0⟩ ⟨fr1, boot1, seq1, ord1, lev1, stamp1, data1⟩ = (fr0 == fr1 && boot0 == boot1 && seq0 == seq1) from rfl)
  cases q0 : (fr0 == fr1 && boot0 == boot1 && seq0 == seq1)
  · rw [q0] at HS HP
    show Calls _ _ #[.agg #[.int .i64 fr0, .int .i64 boot0, .int .i64 seq0, .int .i64 ord0, .int .i64 lev0, .int .i64 stamp0, .string data0], .agg #[.int .i64 fr1, .int .i64 boot1, .int .i64 seq1, .int .i64 ord1, .int .i64 lev1, .int .i64 stamp1, .string data1]] _ _
    go_enter Try.func19, Try.ntmps19
    go_wp2_with fail
    have b0 := ((Below.refl w.heap.size w).alloc (Nat.le_refl _) (.cells #[.int .i64 fr0, .int .i64 boot0, .int .i64 seq0, .int .i64 ord0, .int .i64 lev0, .int .i64 stamp0, .string data0] 30)).alloc (by simp) (.cells #[.int .i64 fr1, .int .i64 boot1, .int .i64 seq1, .int .i64 ord1, .int .i64 lev1, .int .i64 stamp1, .string data1] 30)
    refine (KS.out _).mono ?_
    rw [HP.out]
    rintro e w1 ⟨rfl, b1⟩
    have k0 := (Blk.newEnt w 30 ⟨fr0, boot0, seq0, ord0, lev0, stamp0, data0⟩).alloc (.cells #[.int .i64 fr1, .int .i64 boot1, .int .i64 seq1, .int .i64 ord1, .int .i64 lev1, .int .i64 stamp1, .string data1] 30)
    have k1 := Blk.newEnt (w.alloc (.cells #[.int .i64 fr0, .int .i64 boot0, .int .i64 seq0, .int .i64 ord0, .int .i64 lev0, .int .i64 stamp0, .string data0] 30)) 30 ⟨fr1, boot1, seq1, ord1, lev1, stamp1, data1⟩
    rw [show (w.alloc (.cells #[.int .i64 fr0, .int .i64 boot0, .int .i64 seq0, .int .i64 ord0, .int .i64 lev0, .int .i64 stamp0, .string data0] 30)).heap.size = w.heap.size + 1 by simp] at k1
    obtain ⟨-, -, -, c03, c04, c05, c06⟩ := (k0.past b1).ent
    obtain ⟨-, -, -, c13, c14, c15, c16⟩ := (k1.past b1).ent
    have b2 := b0.trans (b1.mono b0.size)
    clear k0 k1 b0 b1
    go_wp2_with fail
    go_ret
    exact ⟨by rw [HS.out]; simp [], b2⟩
  rw [q0] at HS HP
  cases q1 : (ord0 == ord1)
  · show Calls _ _ #[.agg #[.int .i64 fr0, .int .i64 boot0, .int .i64 seq0, .int .i64 ord0, .int .i64 lev0, .int .i64 stamp0, .string data0], .agg #[.int .i64 fr1, .int .i64 boot1, .int .i64 seq1, .int .i64 ord1, .int .i64 lev1, .int .i64 stamp1, .string data1]] _ _
    go_enter Try.func19, Try.ntmps19
    go_wp2_with fail
    have b0 := ((Below.refl w.heap.size w).alloc (Nat.le_refl _) (.cells #[.int .i64 fr0, .int .i64 boot0, .int .i64 seq0, .int .i64 ord0, .int .i64 lev0, .int .i64 stamp0, .string data0] 30)).alloc (by simp) (.cells #[.int .i64 fr1, .int .i64 boot1, .int .i64 seq1, .int .i64 ord1, .int .i64 lev1, .int .i64 stamp1, .string data1] 30)
    refine (KS.out _).mono ?_
    rw [HP.out]
    rintro e w1 ⟨rfl, b1⟩
    have k0 := (Blk.newEnt w 30 ⟨fr0, boot0, seq0, ord0, lev0, stamp0, data0⟩).alloc (.cells #[.int .i64 fr1, .int .i64 boot1, .int .i64 seq1, .int .i64 ord1, .int .i64 lev1, .int .i64 stamp1, .string data1] 30)
    have k1 := Blk.newEnt (w.alloc (.cells #[.int .i64 fr0, .int .i64 boot0, .int .i64 seq0, .int .i64 ord0, .int .i64 lev0, .int .i64 stamp0, .string data0] 30)) 30 ⟨fr1, boot1, seq1, ord1, lev1, stamp1, data1⟩
    rw [show (w.alloc (.cells #[.int .i64 fr0, .int .i64 boot0, .int .i64 seq0, .int .i64 ord0, .int .i64 lev0, .int .i64 stamp0, .string data0] 30)).heap.size = w.heap.size + 1 by simp] at k1
    obtain ⟨-, -, -, c03, c04, c05, c06⟩ := (k0.past b1).ent
    obtain ⟨-, -, -, c13, c14, c15, c16⟩ := (k1.past b1).ent
    have b2 := b0.trans (b1.mono b0.size)
    clear k0 k1 b0 b1
    go_wp2_with fail
    go_ret
    exact ⟨by rw [HS.out]; simp [q1], b2⟩
  cases q2 : (lev0 == lev1)
  · show Calls _ _ #[.agg #[.int .i64 fr0, .int .i64 boot0, .int .i64 seq0, .int .i64 ord0, .int .i64 lev0, .int .i64 stamp0, .string data0], .agg #[.int .i64 fr1, .int .i64 boot1, .int .i64 seq1, .int .i64 ord1, .int .i64 lev1, .int .i64 stamp1, .string data1]] _ _
    go_enter Try.func19, Try.ntmps19
    go_wp2_with fail
    have b0 := ((Below.refl w.heap.size w).alloc (Nat.le_refl _) (.cells #[.int .i64 fr0, .int .i64 boot0, .int .i64 seq0, .int .i64 ord0, .int .i64 lev0, .int .i64 stamp0, .string data0] 30)).alloc (by simp) (.cells #[.int .i64 fr1, .int .i64 boot1, .int .i64 seq1, .int .i64 ord1, .int .i64 lev1, .int .i64 stamp1, .string data1] 30)
    refine (KS.out _).mono ?_
    rw [HP.out]
    rintro e w1 ⟨rfl, b1⟩
    have k0 := (Blk.newEnt w 30 ⟨fr0, boot0, seq0, ord0, lev0, stamp0, data0⟩).alloc (.cells #[.int .i64 fr1, .int .i64 boot1, .int .i64 seq1, .int .i64 ord1, .int .i64 lev1, .int .i64 stamp1, .string data1] 30)
    have k1 := Blk.newEnt (w.alloc (.cells #[.int .i64 fr0, .int .i64 boot0, .int .i64 seq0, .int .i64 ord0, .int .i64 lev0, .int .i64 stamp0, .string data0] 30)) 30 ⟨fr1, boot1, seq1, ord1, lev1, stamp1, data1⟩
    rw [show (w.alloc (.cells #[.int .i64 fr0, .int .i64 boot0, .int .i64 seq0, .int .i64 ord0, .int .i64 lev0, .int .i64 stamp0, .string data0] 30)).heap.size = w.heap.size + 1 by simp] at k1
    obtain ⟨-, -, -, c03, c04, c05, c06⟩ := (k0.past b1).ent
    obtain ⟨-, -, -, c13, c14, c15, c16⟩ := (k1.past b1).ent
    have b2 := b0.trans (b1.mono b0.size)
    clear k0 k1 b0 b1
    go_wp2_with fail
    go_ret
    exact ⟨by rw [HS.out]; simp [q1, q2], b2⟩
  cases q3 : (stamp0 == stamp1)
  · show Calls _ _ #[.agg #[.int .i64 fr0, .int .i64 boot0, .int .i64 seq0, .int .i64 ord0, .int .i64 lev0, .int .i64 stamp0, .string data0], .agg #[.int .i64 fr1, .int .i64 boot1, .int .i64 seq1, .int .i64 ord1, .int .i64 lev1, .int .i64 stamp1, .string data1]] _ _
    go_enter Try.func19, Try.ntmps19
    go_wp2_with fail
    have b0 := ((Below.refl w.heap.size w).alloc (Nat.le_refl _) (.cells #[.int .i64 fr0, .int .i64 boot0, .int .i64 seq0, .int .i64 ord0, .int .i64 lev0, .int .i64 stamp0, .string data0] 30)).alloc (by simp) (.cells #[.int .i64 fr1, .int .i64 boot1, .int .i64 seq1, .int .i64 ord1, .int .i64 lev1, .int .i64 stamp1, .string data1] 30)
    refine (KS.out _).mono ?_
    rw [HP.out]
    rintro e w1 ⟨rfl, b1⟩
    have k0 := (Blk.newEnt w 30 ⟨fr0, boot0, seq0, ord0, lev0, stamp0, data0⟩).alloc (.cells #[.int .i64 fr1, .int .i64 boot1, .int .i64 seq1, .int .i64 ord1, .int .i64 lev1, .int .i64 stamp1, .string data1] 30)
    have k1 := Blk.newEnt (w.alloc (.cells #[.int .i64 fr0, .int .i64 boot0, .int .i64 seq0, .int .i64 ord0, .int .i64 lev0, .int .i64 stamp0, .string data0] 30)) 30 ⟨fr1, boot1, seq1, ord1, lev1, stamp1, data1⟩
    rw [show (w.alloc (.cells #[.int .i64 fr0, .int .i64 boot0, .int .i64 seq0, .int .i64 ord0, .int .i64 lev0, .int .i64 stamp0, .string data0] 30)).heap.size = w.heap.size + 1 by simp] at k1
    obtain ⟨-, -, -, c03, c04, c05, c06⟩ := (k0.past b1).ent
    obtain ⟨-, -, -, c13, c14, c15, c16⟩ := (k1.past b1).ent
    have b2 := b0.trans (b1.mono b0.size)
    clear k0 k1 b0 b1
    go_wp2_with fail
    go_ret
    exact ⟨by rw [HS.out]; simp [q1, q2, q3], b2⟩
  cases q4 : (data0.toList == data1.toList)
  · show Calls _ _ #[.agg #[.int .i64 fr0, .int .i64 boot0, .int .i64 seq0, .int .i64 ord0, .int .i64 lev0, .int .i64 stamp0, .string data0], .agg #[.int .i64 fr1, .int .i64 boot1, .int .i64 seq1, .int .i64 ord1, .int .i64 lev1, .int .i64 stamp1, .string data1]] _ _
    go_enter Try.func19, Try.ntmps19
    go_wp2_with fail
    have b0 := ((Below.refl w.heap.size w).alloc (Nat.le_refl _) (.cells #[.int .i64 fr0, .int .i64 boot0, .int .i64 seq0, .int .i64 ord0, .int .i64 lev0, .int .i64 stamp0, .string data0] 30)).alloc (by simp) (.cells #[.int .i64 fr1, .int .i64 boot1, .int .i64 seq1, .int .i64 ord1, .int .i64 lev1, .int .i64 stamp1, .string data1] 30)
    refine (KS.out _).mono ?_
    rw [HP.out]
    rintro e w1 ⟨rfl, b1⟩
    have k0 := (Blk.newEnt w 30 ⟨fr0, boot0, seq0, ord0, lev0, stamp0, data0⟩).alloc (.cells #[.int .i64 fr1, .int .i64 boot1, .int .i64 seq1, .int .i64 ord1, .int .i64 lev1, .int .i64 stamp1, .string data1] 30)
    have k1 := Blk.newEnt (w.alloc (.cells #[.int .i64 fr0, .int .i64 boot0, .int .i64 seq0, .int .i64 ord0, .int .i64 lev0, .int .i64 stamp0, .string data0] 30)) 30 ⟨fr1, boot1, seq1, ord1, lev1, stamp1, data1⟩
    rw [show (w.alloc (.cells #[.int .i64 fr0, .int .i64 boot0, .int .i64 seq0, .int .i64 ord0, .int .i64 lev0, .int .i64 stamp0, .string data0] 30)).heap.size = w.heap.size + 1 by simp] at k1
    obtain ⟨-, -, -, c03, c04, c05, c06⟩ := (k0.past b1).ent
    obtain ⟨-, -, -, c13, c14, c15, c16⟩ := (k1.past b1).ent
    have b2 := b0.trans (b1.mono b0.size)
    clear k0 k1 b0 b1
    go_wp2_with fail
    go_ret
    exact ⟨by rw [HS.out]; simp [q1, q2, q3, q4], b2⟩
  show Calls _ _ #[.agg #[.int .i64 fr0, .int .i64 boot0, .int .i64 seq0, .int .i64 ord0, .int .i64 lev0, .int .i64 stamp0, .string data0], .agg #[.int .i64 fr1, .int .i64 boot1, .int .i64 seq1, .int .i64 ord1, .int .i64 lev1, .int .i64 stamp1, .string data1]] _ _
  go_enter Try.func19, Try.ntmps19
  go_wp2_with fail
  have b0 := ((Below.refl w.heap.size w).alloc (Nat.le_refl _) (.cells #[.int .i64 fr0, .int .i64 boot0, .int .i64 seq0, .int .i64 ord0, .int .i64 lev0, .int .i64 stamp0, .string data0] 30)).alloc (by simp) (.cells #[.int .i64 fr1, .int .i64 boot1, .int .i64 seq1, .int .i64 ord1, .int .i64 lev1, .int .i64 stamp1, .string data1] 30)
  refine (KS.out _).mono ?_
  rw [HP.out]
  rintro e w1 ⟨rfl, b1⟩
  have k0 := (Blk.newEnt w 30 ⟨fr0, boot0, seq0, ord0, lev0, stamp0, data0⟩).alloc (.cells #[.int .i64 fr1, .int .i64 boot1, .int .i64 seq1, .int .i64 ord1, .int .i64 lev1, .int .i64 stamp1, .string data1] 30)
  have k1 := Blk.newEnt (w.alloc (.cells #[.int .i64 fr0, .int .i64 boot0, .int .i64 seq0, .int .i64 ord0, .int .i64 lev0, .int .i64 stamp0, .string data0] 30)) 30 ⟨fr1, boot1, seq1, ord1, lev1, stamp1, data1⟩
  rw [show (w.alloc (.cells #[.int .i64 fr0, .int .i64 boot0, .int .i64 seq0, .int .i64 ord0, .int .i64 lev0, .int .i64 stamp0, .string data0] 30)).heap.size = w.heap.size + 1 by simp] at k1
  obtain ⟨-, -, -, c03, c04, c05, c06⟩ := (k0.past b1).ent
  obtain ⟨-, -, -, c13, c14, c15, c16⟩ := (k1.past b1).ent
  have b2 := b0.trans (b1.mono b0.size)
  clear k0 k1 b0 b1
  go_wp2_with fail
  go_ret
  exact ⟨by rw [HS.out]; simp [q1, q2, q3, q4], b2⟩

end Go.Proofs.Ytkpgijmpaklfgaa
