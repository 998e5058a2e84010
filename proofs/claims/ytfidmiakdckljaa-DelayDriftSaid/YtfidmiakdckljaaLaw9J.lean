/- The walk of DelayDrift where a number is out of its bounds. -/
import Derived.Test.YtfidmiakdckljaaLaw9A
namespace Go.Proofs.Ytfidmiakdckljaa
open Go.RowKit

set_option maxHeartbeats 2000000 in
theorem DelayDrift_bad (w : World) (s h k c p q : Int) (hb : p < 0 ∨ q < p ∨ 500000 < q ∨ s < 0 ∨ 1073741824 < c ∨ h < 0 ∨ 1073741824 < k) :
    Calls Try.prog 6 #[tv s h k c, .int .i64 p, .int .i64 q] w fun e w' => e = .returned (.bool true) ∧ Below w.heap.size w w' := by
  show Calls _ _ #[.agg #[.int .i64 s, .int .i64 h, .int .i64 k, .int .i64 c], _, _] _ _
  rcases Int.lt_or_le (p) (0) with cb | g0
  · go_enter Try.func6, Try.ntmps6
    go_wp2_with fail
    refine (begun_c _).mono ?_
    rintro e w1 ⟨rfl, b1⟩
    have K1 := Lib.hid ((Blk.new w #[.int .i64 s, .int .i64 h, .int .i64 k, .int .i64 c] 27).past b1)
    have a0 := K1.out.cell (i := 0) rfl
    have a1 := K1.out.cell (i := 1) rfl
    have a2 := K1.out.cell (i := 2) rfl
    have a3 := K1.out.cell (i := 3) rfl
    have b0 := (Below.refl w.heap.size w).alloc (Nat.le_refl _) (.cells #[.int .i64 s, .int .i64 h, .int .i64 k, .int .i64 c] 27)
    have B1 := Lib.hid (b0.trans (b1.mono b0.size))
    clear b0 b1
    go_wp2_with fail
    go_ret
    exact ⟨rfl, B1.out⟩
  rcases Int.lt_or_le (q) (p) with cb | g1
  · go_enter Try.func6, Try.ntmps6
    go_wp2_with fail
    refine (begun_c _).mono ?_
    rintro e w1 ⟨rfl, b1⟩
    have K1 := Lib.hid ((Blk.new w #[.int .i64 s, .int .i64 h, .int .i64 k, .int .i64 c] 27).past b1)
    have a0 := K1.out.cell (i := 0) rfl
    have a1 := K1.out.cell (i := 1) rfl
    have a2 := K1.out.cell (i := 2) rfl
    have a3 := K1.out.cell (i := 3) rfl
    have b0 := (Below.refl w.heap.size w).alloc (Nat.le_refl _) (.cells #[.int .i64 s, .int .i64 h, .int .i64 k, .int .i64 c] 27)
    have B1 := Lib.hid (b0.trans (b1.mono b0.size))
    clear b0 b1
    go_wp2_with fail
    go_ret
    exact ⟨rfl, B1.out⟩
  rcases Int.lt_or_le (500000) (q) with cb | g2
  · go_enter Try.func6, Try.ntmps6
    go_wp2_with fail
    refine (begun_c _).mono ?_
    rintro e w1 ⟨rfl, b1⟩
    have K1 := Lib.hid ((Blk.new w #[.int .i64 s, .int .i64 h, .int .i64 k, .int .i64 c] 27).past b1)
    have a0 := K1.out.cell (i := 0) rfl
    have a1 := K1.out.cell (i := 1) rfl
    have a2 := K1.out.cell (i := 2) rfl
    have a3 := K1.out.cell (i := 3) rfl
    have b0 := (Below.refl w.heap.size w).alloc (Nat.le_refl _) (.cells #[.int .i64 s, .int .i64 h, .int .i64 k, .int .i64 c] 27)
    have B1 := Lib.hid (b0.trans (b1.mono b0.size))
    clear b0 b1
    go_wp2_with fail
    go_ret
    exact ⟨rfl, B1.out⟩
  rcases Int.lt_or_le (s) (0) with cb | g3
  · go_enter Try.func6, Try.ntmps6
    go_wp2_with fail
    refine (begun_c _).mono ?_
    rintro e w1 ⟨rfl, b1⟩
    have K1 := Lib.hid ((Blk.new w #[.int .i64 s, .int .i64 h, .int .i64 k, .int .i64 c] 27).past b1)
    have a0 := K1.out.cell (i := 0) rfl
    have a1 := K1.out.cell (i := 1) rfl
    have a2 := K1.out.cell (i := 2) rfl
    have a3 := K1.out.cell (i := 3) rfl
    have b0 := (Below.refl w.heap.size w).alloc (Nat.le_refl _) (.cells #[.int .i64 s, .int .i64 h, .int .i64 k, .int .i64 c] 27)
    have B1 := Lib.hid (b0.trans (b1.mono b0.size))
    clear b0 b1
    go_wp2_with fail
    go_ret
    exact ⟨rfl, B1.out⟩
  rcases Int.lt_or_le (1073741824) (c) with cb | g4
  · go_enter Try.func6, Try.ntmps6
    go_wp2_with fail
    refine (begun_c _).mono ?_
    rintro e w1 ⟨rfl, b1⟩
    have K1 := Lib.hid ((Blk.new w #[.int .i64 s, .int .i64 h, .int .i64 k, .int .i64 c] 27).past b1)
    have a0 := K1.out.cell (i := 0) rfl
    have a1 := K1.out.cell (i := 1) rfl
    have a2 := K1.out.cell (i := 2) rfl
    have a3 := K1.out.cell (i := 3) rfl
    have b0 := (Below.refl w.heap.size w).alloc (Nat.le_refl _) (.cells #[.int .i64 s, .int .i64 h, .int .i64 k, .int .i64 c] 27)
    have B1 := Lib.hid (b0.trans (b1.mono b0.size))
    clear b0 b1
    go_wp2_with fail
    go_ret
    exact ⟨rfl, B1.out⟩
  rcases Int.lt_or_le (h) (0) with cb | g5
  · go_enter Try.func6, Try.ntmps6
    go_wp2_with fail
    refine (begun_c _).mono ?_
    rintro e w1 ⟨rfl, b1⟩
    have K1 := Lib.hid ((Blk.new w #[.int .i64 s, .int .i64 h, .int .i64 k, .int .i64 c] 27).past b1)
    have a0 := K1.out.cell (i := 0) rfl
    have a1 := K1.out.cell (i := 1) rfl
    have a2 := K1.out.cell (i := 2) rfl
    have a3 := K1.out.cell (i := 3) rfl
    have b0 := (Below.refl w.heap.size w).alloc (Nat.le_refl _) (.cells #[.int .i64 s, .int .i64 h, .int .i64 k, .int .i64 c] 27)
    have B1 := Lib.hid (b0.trans (b1.mono b0.size))
    clear b0 b1
    go_wp2_with fail
    go_ret
    exact ⟨rfl, B1.out⟩
  rcases Int.lt_or_le (1073741824) (k) with cb | g6
  · go_enter Try.func6, Try.ntmps6
    go_wp2_with fail
    refine (begun_c _).mono ?_
    rintro e w1 ⟨rfl, b1⟩
    have K1 := Lib.hid ((Blk.new w #[.int .i64 s, .int .i64 h, .int .i64 k, .int .i64 c] 27).past b1)
    have a0 := K1.out.cell (i := 0) rfl
    have a1 := K1.out.cell (i := 1) rfl
    have a2 := K1.out.cell (i := 2) rfl
    have a3 := K1.out.cell (i := 3) rfl
    have b0 := (Below.refl w.heap.size w).alloc (Nat.le_refl _) (.cells #[.int .i64 s, .int .i64 h, .int .i64 k, .int .i64 c] 27)
    have B1 := Lib.hid (b0.trans (b1.mono b0.size))
    clear b0 b1
    go_wp2_with fail
    go_ret
    exact ⟨rfl, B1.out⟩
  omega
end Go.Proofs.Ytfidmiakdckljaa
