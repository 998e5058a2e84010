/- The walk of DelayDrift. -/
import Derived.Test.YtfidmiakdckljaaLaw9J
namespace Go.Proofs.Ytfidmiakdckljaa
open Go.RowKit

set_option maxHeartbeats 2000000 in
theorem DelayDrift_good (w : World) (s h k c p q : Int) (g0 : 0 ≤ p) (g1 : p ≤ q) (g2 : q ≤ 500000) (g3 : 0 ≤ s) (g4 : c ≤ 1073741824) (g5 : 0 ≤ h) (g6 : k ≤ 1073741824) :
    Calls Try.prog 6 #[tv s h k c, .int .i64 p, .int .i64 q] w fun e w' => e = .returned (.bool true) ∧ Below w.heap.size w w' := by
  show Calls _ _ #[.agg #[.int .i64 s, .int .i64 h, .int .i64 k, .int .i64 c], _, _] _ _
  cases hbb : (PDelay.bound s h k c p).2
  · obtain ⟨e1, e2⟩ := PDelay.drift_no (q := q) hbb g3 g4 ⟨g0, by omega⟩
    have H1 := Lib.hid e1
    have H2 := Lib.hid e2
    clear hbb e1 e2
    go_enter Try.func6, Try.ntmps6
    go_wp2_with fail
    refine (begun_c _).mono ?_
    rintro e w1 ⟨rfl, b1⟩
    have K1 := Lib.hid ((Blk.new w #[.int .i64 s, .int .i64 h, .int .i64 k, .int .i64 c] 27).past b1)
    have a0 := K1.out.cell (i := 0) rfl
    have a1 := K1.out.cell (i := 1) rfl
    have a2 := K1.out.cell (i := 2) rfl
    have a3 := K1.out.cell (i := 3) rfl
    have b0 := (Below.refl w.heap.size w).alloc (Nat.le_refl _) (.cells #[.int .i64 s, .int .i64 h, .int .i64 k, .int .i64 c] 27)
    have B1 := Lib.hid (b0.trans (b1.mono b0.size))
    clear b0 b1
    go_wp2_with (first | ((with_reducible show wpList _ _ _ ((⟨some 47, Op.load 27 _, _, _, _, _⟩ : Oper) :: _) _ _); go_must (refine wpList_load_row rfl 27 (.tmp 3) rfl w.heap.size rfl 27 #[.int .i64 s, .int .i64 h, .int .i64 k, .int .i64 c] (0, 0) _ K1.out Try.underlying27 rfl (by kernel_rfl) ?_)))
    refine (Bound_c w1 s h k c p).mono ?_
    rw [H1.out]
    rintro e w2 ⟨rfl, b2⟩
    have K2 := Lib.hid (K1.out.past b2)
    have B2 := Lib.hid (B1.out.trans (b2.mono B1.out.size))
    clear b2 a0 a1 a2 a3
    go_wp2_with (first | ((with_reducible show wpList _ _ _ ((⟨some 53, Op.load 27 _, _, _, _, _⟩ : Oper) :: _) _ _); go_must (refine wpList_load_row rfl 27 (.tmp 3) rfl w.heap.size rfl 27 #[.int .i64 s, .int .i64 h, .int .i64 k, .int .i64 c] (0, 0) _ K2.out Try.underlying27 rfl (by kernel_rfl) ?_)))
    refine (Bound_c w2 s h k c q).mono ?_
    rw [H2.out]
    rintro e w3 ⟨rfl, b3⟩
    have K3 := Lib.hid (K2.out.past b3)
    have B3 := Lib.hid (B2.out.trans (b3.mono B2.out.size))
    clear b3
    go_wp2_with fail
    go_ret
    exact ⟨rfl, B3.out⟩
  · obtain ⟨x, y, e1, e2, hxy, hx, hy, e3⟩ := PDelay.drift_yes hbb g3 g4 g1 g2
    have H1 := Lib.hid e1
    have H2 := Lib.hid e2
    have H3 := Lib.hid e3
    clear hbb e1 e2 e3
    go_enter Try.func6, Try.ntmps6
    go_wp2_with fail
    refine (begun_c _).mono ?_
    rintro e w1 ⟨rfl, b1⟩
    have K1 := Lib.hid ((Blk.new w #[.int .i64 s, .int .i64 h, .int .i64 k, .int .i64 c] 27).past b1)
    have a0 := K1.out.cell (i := 0) rfl
    have a1 := K1.out.cell (i := 1) rfl
    have a2 := K1.out.cell (i := 2) rfl
    have a3 := K1.out.cell (i := 3) rfl
    have b0 := (Below.refl w.heap.size w).alloc (Nat.le_refl _) (.cells #[.int .i64 s, .int .i64 h, .int .i64 k, .int .i64 c] 27)
    have B1 := Lib.hid (b0.trans (b1.mono b0.size))
    clear b0 b1
    go_wp2_with (first | ((with_reducible show wpList _ _ _ ((⟨some 47, Op.load 27 _, _, _, _, _⟩ : Oper) :: _) _ _); go_must (refine wpList_load_row rfl 27 (.tmp 3) rfl w.heap.size rfl 27 #[.int .i64 s, .int .i64 h, .int .i64 k, .int .i64 c] (0, 0) _ K1.out Try.underlying27 rfl (by kernel_rfl) ?_)))
    refine (Bound_c w1 s h k c p).mono ?_
    rw [H1.out]
    rintro e w2 ⟨rfl, b2⟩
    have K2 := Lib.hid (K1.out.past b2)
    have B2 := Lib.hid (B1.out.trans (b2.mono B1.out.size))
    clear b2 a0 a1 a2 a3
    go_wp2_with (first | ((with_reducible show wpList _ _ _ ((⟨some 53, Op.load 27 _, _, _, _, _⟩ : Oper) :: _) _ _); go_must (refine wpList_load_row rfl 27 (.tmp 3) rfl w.heap.size rfl 27 #[.int .i64 s, .int .i64 h, .int .i64 k, .int .i64 c] (0, 0) _ K2.out Try.underlying27 rfl (by kernel_rfl) ?_)))
    refine (Bound_c w2 s h k c q).mono ?_
    rw [H2.out]
    rintro e w3 ⟨rfl, b3⟩
    have K3 := Lib.hid (K2.out.past b3)
    have B3 := Lib.hid (B2.out.trans (b3.mono B2.out.size))
    clear b3
    go_wp2_with (first | ((with_reducible show wpList _ _ _ ((⟨some 74, Op.load 27 _, _, _, _, _⟩ : Oper) :: _) _ _); go_must (refine wpList_unguard rfl ?_; refine wpList_load_row rfl 27 (.tmp 3) rfl w.heap.size rfl 27 #[.int .i64 s, .int .i64 h, .int .i64 k, .int .i64 c] (0, 0) _ K3.out Try.underlying27 rfl (by kernel_rfl) ?_)))
    refine (Fast_c w3 s h k c q (x - 1)).mono ?_
    rw [H3.out]
    rintro e w4 ⟨rfl, b4⟩
    have B4 := Lib.hid (B3.out.trans (b4.mono B3.out.size))
    clear b4
    go_wp2_with fail
    go_ret
    exact ⟨rfl, B4.out⟩

theorem DelayDrift_w (w : World) (s h k c p q : Int) :
    Calls Try.prog 6 #[tv s h k c, .int .i64 p, .int .i64 q] w fun e w' => e = .returned (.bool true) ∧ Below w.heap.size w w' := by
  by_cases hb : p < 0 ∨ q < p ∨ 500000 < q ∨ s < 0 ∨ 1073741824 < c ∨ h < 0 ∨ 1073741824 < k
  · exact DelayDrift_bad w s h k c p q hb
  · exact DelayDrift_good w s h k c p q (by omega) (by omega) (by omega) (by omega) (by omega) (by omega) (by omega)
end Go.Proofs.Ytfidmiakdckljaa
