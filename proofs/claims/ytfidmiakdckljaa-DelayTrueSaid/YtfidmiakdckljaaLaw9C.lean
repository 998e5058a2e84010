/- The walk of DelayTrue where a number is out of its bounds, part 2. -/
import Derived.Test.YtfidmiakdckljaaLaw9A
namespace Go.Proofs.Ytfidmiakdckljaa
open Go.RowKit

set_option maxHeartbeats 2000000 in
theorem DelayTrue_bad1 (w : World) (th st bk x y p : Int) (f g : Bool) (g0 : 0 ≤ th) (g1 : th ≤ 1048576) (g2 : 0 ≤ st) (g3 : st ≤ 1048576) (g4 : 0 ≤ bk) (hb : 1048576 < bk ∨ x < 0 ∨ 1073741824 < x ∨ y < 0) :
    Calls Try.prog 3 #[.int .i64 th, .int .i64 st, .int .i64 bk, .int .i64 x, .int .i64 y, .int .i64 p, .bool f, .bool g] w fun e w' => e = .returned (.bool true) ∧ Below w.heap.size w w' := by
  rcases Int.lt_or_le (1048576) (bk) with cb | g5
  · go_enter Try.func3, Try.ntmps3
    go_wp2_with fail
    refine (begun_c w).mono ?_
    rintro e w1 ⟨rfl, b1⟩
    go_wp2_with fail
    go_ret
    exact ⟨rfl, b1⟩
  rcases Int.lt_or_le (x) (0) with cb | g6
  · go_enter Try.func3, Try.ntmps3
    go_wp2_with fail
    refine (begun_c w).mono ?_
    rintro e w1 ⟨rfl, b1⟩
    go_wp2_with fail
    go_ret
    exact ⟨rfl, b1⟩
  rcases Int.lt_or_le (1073741824) (x) with cb | g7
  · go_enter Try.func3, Try.ntmps3
    go_wp2_with fail
    refine (begun_c w).mono ?_
    rintro e w1 ⟨rfl, b1⟩
    go_wp2_with fail
    go_ret
    exact ⟨rfl, b1⟩
  rcases Int.lt_or_le (y) (0) with cb | g8
  · go_enter Try.func3, Try.ntmps3
    go_wp2_with fail
    refine (begun_c w).mono ?_
    rintro e w1 ⟨rfl, b1⟩
    go_wp2_with fail
    go_ret
    exact ⟨rfl, b1⟩
  omega
end Go.Proofs.Ytfidmiakdckljaa
