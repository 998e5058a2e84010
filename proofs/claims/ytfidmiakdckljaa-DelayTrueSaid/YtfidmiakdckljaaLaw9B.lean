/- The walk of DelayTrue where a number is out of its bounds, part 1. -/
import Derived.Test.YtfidmiakdckljaaLaw9A
namespace Go.Proofs.Ytfidmiakdckljaa
open Go.RowKit

set_option maxHeartbeats 2000000 in
theorem DelayTrue_bad0 (w : World) (th st bk x y p : Int) (f g : Bool)  (hb : th < 0 ∨ 1048576 < th ∨ st < 0 ∨ 1048576 < st ∨ bk < 0) :
    Calls Try.prog 3 #[.int .i64 th, .int .i64 st, .int .i64 bk, .int .i64 x, .int .i64 y, .int .i64 p, .bool f, .bool g] w fun e w' => e = .returned (.bool true) ∧ Below w.heap.size w w' := by
  rcases Int.lt_or_le (th) (0) with cb | g0
  · go_enter Try.func3, Try.ntmps3
    go_wp2_with fail
    refine (begun_c w).mono ?_
    rintro e w1 ⟨rfl, b1⟩
    go_wp2_with fail
    go_ret
    exact ⟨rfl, b1⟩
  rcases Int.lt_or_le (1048576) (th) with cb | g1
  · go_enter Try.func3, Try.ntmps3
    go_wp2_with fail
    refine (begun_c w).mono ?_
    rintro e w1 ⟨rfl, b1⟩
    go_wp2_with fail
    go_ret
    exact ⟨rfl, b1⟩
  rcases Int.lt_or_le (st) (0) with cb | g2
  · go_enter Try.func3, Try.ntmps3
    go_wp2_with fail
    refine (begun_c w).mono ?_
    rintro e w1 ⟨rfl, b1⟩
    go_wp2_with fail
    go_ret
    exact ⟨rfl, b1⟩
  rcases Int.lt_or_le (1048576) (st) with cb | g3
  · go_enter Try.func3, Try.ntmps3
    go_wp2_with fail
    refine (begun_c w).mono ?_
    rintro e w1 ⟨rfl, b1⟩
    go_wp2_with fail
    go_ret
    exact ⟨rfl, b1⟩
  rcases Int.lt_or_le (bk) (0) with cb | g4
  · go_enter Try.func3, Try.ntmps3
    go_wp2_with fail
    refine (begun_c w).mono ?_
    rintro e w1 ⟨rfl, b1⟩
    go_wp2_with fail
    go_ret
    exact ⟨rfl, b1⟩
  omega
end Go.Proofs.Ytfidmiakdckljaa
