/- The walk of DelayMore within the bounds. -/
import Derived.Test.YtfidmiakdckljaaLaw9H
namespace Go.Proofs.Ytfidmiakdckljaa
open Go.RowKit

set_option maxHeartbeats 2000000 in
theorem DelayMore_good (w : World) (s h k c m p : Int) (g0 : 0 ≤ m) (g1 : m ≤ 1073741824) (g2 : 0 ≤ c) (g3 : c ≤ 1073741824) (g4 : 0 ≤ s) (g5 : 0 ≤ h) (g6 : 0 ≤ k) (g7 : k ≤ 1073741824) :
    Calls Try.prog 4 #[tv s h k c, .int .i64 m, .int .i64 p] w fun e w' => e = .returned (.bool true) ∧ Below w.heap.size w w' := by
  show Calls _ _ #[.agg #[.int .i64 s, .int .i64 h, .int .i64 k, .int .i64 c], _, _] _ _
  cases hbb : (PDelay.bound s h k c p).2
  · have H1 := Lib.hid (PDelay.bound_none hbb)
    clear hbb
    go_enter Try.func4, Try.ntmps4
    go_wp2_with fail
    refine (begun_c _).mono ?_
    rintro e w1 ⟨rfl, b1⟩
    have K1 := Lib.hid ((Blk.new w #[.int .i64 s, .int .i64 h, .int .i64 k, .int .i64 c] 27).past b1)
    have a0 := K1.out.cell (i := 0) rfl
    have a1 := K1.out.cell (i := 1) rfl
    have a2 := K1.out.cell (i := 2) rfl
    have a3 := K1.out.cell (i := 3) rfl
    have b0 := (Below.refl w.heap.size w).alloc (Nat.le_refl _) (.cells #[.int .i64 s, .int .i64 h, .int .i64 k, .int .i64 c] 27)
    have B1 := Lib.hid (b0.trans (b1.mono b0.size))
    clear b0 b1
    go_wp2_with (first | ((with_reducible show wpList _ _ _ ((⟨some 53, Op.load 27 _, _, _, _, _⟩ : Oper) :: _) _ _); go_must (refine wpList_load_row rfl 27 (.tmp 3) rfl w.heap.size rfl 27 #[.int .i64 s, .int .i64 h, .int .i64 k, .int .i64 c] (0, 0) _ K1.out Try.underlying27 rfl (by kernel_rfl) ?_)))
    refine (Bound_c w1 s h k c p).mono ?_
    rw [H1.out]
    rintro e w2 ⟨rfl, b2⟩
    have K2 := Lib.hid (K1.out.past b2)
    clear a0 a1 a2 a3
    have a0 := K2.out.cell (i := 0) rfl
    have a1 := K2.out.cell (i := 1) rfl
    have a2 := K2.out.cell (i := 2) rfl
    have a3 := K2.out.cell (i := 3) rfl
    have B2 := Lib.hid (B1.out.trans (b2.mono B1.out.size))
    clear b2
    go_wp2_with (first | ((with_reducible show wpList _ _ _ ((⟨some 58, Op.load 27 _, _, _, _, _⟩ : Oper) :: _) _ _); go_must (refine wpList_load_row rfl 27 (.tmp 3) rfl w.heap.size rfl 27 #[.int .i64 s, .int .i64 h, .int .i64 k, .int .i64 c] (0, 0) _ K2.out Try.underlying27 rfl (by kernel_rfl) ?_)))
    have B3 := Lib.hid (B2.out.alloc B2.out.size (.cells #[.int .i64 s, .int .i64 h, .int .i64 k, .int .i64 (c + m)] 27))
    refine (Bound_c _ s h k (c + m) p).mono ?_
    rintro e w4 ⟨rfl, b4⟩
    have B4 := Lib.hid (B3.out.trans (b4.mono B3.out.size))
    clear b4
    go_wp2_with fail
    go_ret
    exact ⟨rfl, B4.out⟩
  · obtain ⟨x, y, e1, e2, hxy⟩ := PDelay.more_yes hbb g0 g1 g4 g3
    have H1 := Lib.hid e1
    have H2 := Lib.hid e2
    clear hbb e1 e2
    go_enter Try.func4, Try.ntmps4
    go_wp2_with fail
    refine (begun_c _).mono ?_
    rintro e w1 ⟨rfl, b1⟩
    have K1 := Lib.hid ((Blk.new w #[.int .i64 s, .int .i64 h, .int .i64 k, .int .i64 c] 27).past b1)
    have a0 := K1.out.cell (i := 0) rfl
    have a1 := K1.out.cell (i := 1) rfl
    have a2 := K1.out.cell (i := 2) rfl
    have a3 := K1.out.cell (i := 3) rfl
    have b0 := (Below.refl w.heap.size w).alloc (Nat.le_refl _) (.cells #[.int .i64 s, .int .i64 h, .int .i64 k, .int .i64 c] 27)
    have B1 := Lib.hid (b0.trans (b1.mono b0.size))
    clear b0 b1
    go_wp2_with (first | ((with_reducible show wpList _ _ _ ((⟨some 53, Op.load 27 _, _, _, _, _⟩ : Oper) :: _) _ _); go_must (refine wpList_load_row rfl 27 (.tmp 3) rfl w.heap.size rfl 27 #[.int .i64 s, .int .i64 h, .int .i64 k, .int .i64 c] (0, 0) _ K1.out Try.underlying27 rfl (by kernel_rfl) ?_)))
    refine (Bound_c w1 s h k c p).mono ?_
    rw [H1.out]
    rintro e w2 ⟨rfl, b2⟩
    have K2 := Lib.hid (K1.out.past b2)
    clear a0 a1 a2 a3
    have a0 := K2.out.cell (i := 0) rfl
    have a1 := K2.out.cell (i := 1) rfl
    have a2 := K2.out.cell (i := 2) rfl
    have a3 := K2.out.cell (i := 3) rfl
    have B2 := Lib.hid (B1.out.trans (b2.mono B1.out.size))
    clear b2
    go_wp2_with (first | ((with_reducible show wpList _ _ _ ((⟨some 58, Op.load 27 _, _, _, _, _⟩ : Oper) :: _) _ _); go_must (refine wpList_load_row rfl 27 (.tmp 3) rfl w.heap.size rfl 27 #[.int .i64 s, .int .i64 h, .int .i64 k, .int .i64 c] (0, 0) _ K2.out Try.underlying27 rfl (by kernel_rfl) ?_)))
    have B3 := Lib.hid (B2.out.alloc B2.out.size (.cells #[.int .i64 s, .int .i64 h, .int .i64 k, .int .i64 (c + m)] 27))
    refine (Bound_c _ s h k (c + m) p).mono ?_
    rw [H2.out]
    rintro e w4 ⟨rfl, b4⟩
    have B4 := Lib.hid (B3.out.trans (b4.mono B3.out.size))
    clear b4
    go_wp2_with fail
    go_ret
    exact ⟨rfl, B4.out⟩

theorem DelayMore_w (w : World) (s h k c m p : Int) :
    Calls Try.prog 4 #[tv s h k c, .int .i64 m, .int .i64 p] w fun e w' => e = .returned (.bool true) ∧ Below w.heap.size w w' := by
  by_cases hb : m < 0 ∨ 1073741824 < m ∨ c < 0 ∨ 1073741824 < c ∨ s < 0 ∨ h < 0 ∨ k < 0 ∨ 1073741824 < k
  · exact DelayMore_bad w s h k c m p hb
  · exact DelayMore_good w s h k c m p (by omega) (by omega) (by omega) (by omega) (by omega) (by omega) (by omega) (by omega)
end Go.Proofs.Ytfidmiakdckljaa
