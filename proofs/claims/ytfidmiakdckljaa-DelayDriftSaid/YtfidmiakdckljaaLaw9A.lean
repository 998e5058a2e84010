/- The walks of the laws of layer 9: begun, DelaySame. -/
import Derived.Test.YtfidmiakdckljaaDelayB
namespace Go.Proofs.Ytfidmiakdckljaa
open Go.RowKit

theorem begun_c (w : World) :
    Calls Try.prog 7 #[] w fun e w' => e = .returned (.bool true) ∧ Below w.heap.size w w' := by
  have H1 := Lib.hid (show PDelay.bound 0 500 510 30 0 = (20, true) by decide +kernel)
  have H2 := Lib.hid (show PDelay.fast 0 0 0 5 0 5 = true by decide +kernel)
  have H3 := Lib.hid (show PDelay.fast 0 0 0 6 0 5 = false by decide +kernel)
  go_enter Try.func7, Try.ntmps7
  go_wp2_with fail
  refine (Bound_c w 0 500 510 30 0).mono ?_
  rw [H1.out]
  rintro e w1 ⟨rfl, b1⟩
  go_wp2_with fail
  refine (Fast_c w1 0 0 0 5 0 5).mono ?_
  rw [H2.out]
  rintro e w2 ⟨rfl, b2⟩
  have B2 := Lib.hid (b1.trans (b2.mono b1.size)); clear b1 b2
  go_wp2_with fail
  refine (Fast_c w2 0 0 0 6 0 5).mono ?_
  rw [H3.out]
  rintro e w3 ⟨rfl, b3⟩
  have B3 := Lib.hid (B2.out.trans (b3.mono B2.out.size)); clear b3
  go_wp2_with fail
  go_ret
  exact ⟨rfl, B3.out⟩

set_option maxHeartbeats 1000000 in
theorem DelaySame_w (w : World) (s h st tk : Int) :
    Calls Try.prog 5 #[.int .i64 s, .int .i64 h, .int .i64 st, .int .i64 tk] w fun e w' => e = .returned (.bool true) ∧ Below w.heap.size w w' := by
  rcases Int.lt_or_le (s) (0) with cb | g0
  · go_enter Try.func5, Try.ntmps5
    go_wp2_with fail
    refine (begun_c w).mono ?_
    rintro e w1 ⟨rfl, b1⟩
    go_wp2_with fail
    go_ret
    exact ⟨rfl, b1⟩
  rcases Int.lt_or_le (1073741824) (s) with cb | g1
  · go_enter Try.func5, Try.ntmps5
    go_wp2_with fail
    refine (begun_c w).mono ?_
    rintro e w1 ⟨rfl, b1⟩
    go_wp2_with fail
    go_ret
    exact ⟨rfl, b1⟩
  rcases Int.lt_or_le (h) (0) with cb | g2
  · go_enter Try.func5, Try.ntmps5
    go_wp2_with fail
    refine (begun_c w).mono ?_
    rintro e w1 ⟨rfl, b1⟩
    go_wp2_with fail
    go_ret
    exact ⟨rfl, b1⟩
  rcases Int.lt_or_le (1073741824) (h) with cb | g3
  · go_enter Try.func5, Try.ntmps5
    go_wp2_with fail
    refine (begun_c w).mono ?_
    rintro e w1 ⟨rfl, b1⟩
    go_wp2_with fail
    go_ret
    exact ⟨rfl, b1⟩
  rcases Int.lt_or_le (st) (0) with cb | g4
  · go_enter Try.func5, Try.ntmps5
    go_wp2_with fail
    refine (begun_c w).mono ?_
    rintro e w1 ⟨rfl, b1⟩
    go_wp2_with fail
    go_ret
    exact ⟨rfl, b1⟩
  rcases Int.lt_or_le (1048576) (st) with cb | g5
  · go_enter Try.func5, Try.ntmps5
    go_wp2_with fail
    refine (begun_c w).mono ?_
    rintro e w1 ⟨rfl, b1⟩
    go_wp2_with fail
    go_ret
    exact ⟨rfl, b1⟩
  rcases Int.lt_or_le (tk) (0) with cb | g6
  · go_enter Try.func5, Try.ntmps5
    go_wp2_with fail
    refine (begun_c w).mono ?_
    rintro e w1 ⟨rfl, b1⟩
    go_wp2_with fail
    go_ret
    exact ⟨rfl, b1⟩
  rcases Int.lt_or_le (1048576) (tk) with cb | g7
  · go_enter Try.func5, Try.ntmps5
    go_wp2_with fail
    refine (begun_c w).mono ?_
    rintro e w1 ⟨rfl, b1⟩
    go_wp2_with fail
    go_ret
    exact ⟨rfl, b1⟩
  have H1 := Lib.hid (show PDelay.bound s h (h + st) (s + st + tk) 0 = (tk, true) by
    rw [PDelay.bound_in (PDelay.went_of (by omega) (by omega) (by omega) (by omega) (by omega) (by omega)) (PDelay.went_of (by omega) (by omega) (by omega) (by omega) (by omega) (by omega)) (by unfold PDelay.Rate; omega) (by omega), PDelay.raw_zero]
    congr 1; omega)
  go_enter Try.func5, Try.ntmps5
  go_wp2_with fail
  refine (begun_c w).mono ?_
  rintro e w1 ⟨rfl, b1⟩
  go_wp2_with fail
  refine (Bound_c w1 s h (h + st) (s + st + tk) 0).mono ?_
  rw [H1.out]
  rintro e w2 ⟨rfl, b2⟩
  have B2 := Lib.hid (b1.trans (b2.mono b1.size)); clear b1 b2
  go_wp2_with fail
  go_ret
  exact ⟨rfl, B2.out⟩
end Go.Proofs.Ytfidmiakdckljaa
