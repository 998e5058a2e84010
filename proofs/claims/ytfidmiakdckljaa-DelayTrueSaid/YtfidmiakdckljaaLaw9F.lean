/- The walk of DelayTrue within the bounds, the first clock fast. -/
import Derived.Test.YtfidmiakdckljaaLaw9A
import Derived.Test.YtfidmiakdckljaaSpanR
namespace Go.Proofs.Ytfidmiakdckljaa
open Go.RowKit

set_option maxHeartbeats 2000000 in
theorem DelayTrue_tf (w : World) (th st bk x y p : Int) (g0 : 0 ≤ th) (g1 : th ≤ 1048576) (g2 : 0 ≤ st) (g3 : st ≤ 1048576) (g4 : 0 ≤ bk) (g5 : bk ≤ 1048576) (g6 : 0 ≤ x) (g7 : x ≤ 1073741824) (g8 : 0 ≤ y) (g9 : y ≤ 1073741824) (g10 : 0 ≤ p) (g11 : p ≤ 500000) :
    Calls Try.prog 3 #[.int .i64 th, .int .i64 st, .int .i64 bk, .int .i64 x, .int .i64 y, .int .i64 p, .bool true, .bool false] w fun e w' => e = .returned (.bool true) ∧ Below w.heap.size w w' := by
  have hp : PDelay.Rate p := by unfold PDelay.Rate; omega
  have HA := PDelay.first_bound (n := th + st + bk) (by omega) hp true
  have HC := PDelay.second_bound (m := st) (by omega) hp false
  obtain ⟨i1, i2⟩ := PDelay.show_in (n := th + st + bk) (by omega) hp true
  obtain ⟨j1, j2⟩ := PDelay.show_in (n := st) (by omega) hp true
  simp only [reduceIte, Bool.false_eq_true] at HA HC i1 i2 j1 j2
  have K1 := Lib.hid (fun w' => Ratio_c w' (th + st + bk) (1000000 + p) 1000000 false (by omega) (by omega) (by omega) (by omega) (by omega) (by omega))
  have K2 := Lib.hid (fun w' => Ratio_c w' st (1000000 + p) 1000000 false (by omega) (by omega) (by omega) (by omega) (by omega) (by omega))
  obtain ⟨u, hu⟩ : ∃ u, PSpan.dn (th + st + bk) (1000000 + p) 1000000 = u := ⟨_, rfl⟩
  obtain ⟨v, hv⟩ : ∃ v, PSpan.dn st (1000000 + p) 1000000 = v := ⟨_, rfl⟩
  have E1 := Lib.hid (show ratio (th + st + bk) (1000000 + p) 1000000 false = u from hu)
  have E2 := Lib.hid (show ratio st (1000000 + p) 1000000 false = v from hv)
  rw [hu] at HA i1 i2
  rw [hv] at HC j1 j2
  clear hu hv
  have HB := Lib.hid (show PDelay.bound x y (y + v) (x + u) p = (PDelay.raw u v p, true) by
    have := PDelay.bound_in (PDelay.went_of (x := x) (y := x + u) (by omega) (by omega) (by omega) (by omega) (by omega) (by omega)) (PDelay.went_of (x := y) (y := y + v) (by omega) (by omega) (by omega) (by omega) (by omega) (by omega)) hp (by omega)
    rwa [show x + u - x = u by omega, show y + v - y = v by omega] at this)
  have HR := show bk ≤ PDelay.raw u v p by unfold PDelay.raw; omega
  clear HA HC hp
  generalize PDelay.raw u v p = r at *
  go_enter Try.func3, Try.ntmps3
  go_wp2_with fail
  refine (begun_c w).mono ?_
  rintro e w1 ⟨rfl, b1⟩
  go_wp2_with fail
  refine (K1.out w1).mono ?_
  rw [E1.out]
  rintro e w2 ⟨rfl, rfl⟩
  go_wp2_with fail
  refine (K2.out w1).mono ?_
  rw [E2.out]
  rintro e w2 ⟨rfl, rfl⟩
  go_wp2_with fail
  refine (Bound_c w1 x y (y + v) (x + u) p).mono ?_
  rw [HB.out]
  rintro e w2 ⟨rfl, b2⟩
  have B2 := Lib.hid (b1.trans (b2.mono b1.size)); clear b1 b2
  go_wp2_with fail
  go_ret
  exact ⟨rfl, B2.out⟩

set_option maxHeartbeats 2000000 in
theorem DelayTrue_tt (w : World) (th st bk x y p : Int) (g0 : 0 ≤ th) (g1 : th ≤ 1048576) (g2 : 0 ≤ st) (g3 : st ≤ 1048576) (g4 : 0 ≤ bk) (g5 : bk ≤ 1048576) (g6 : 0 ≤ x) (g7 : x ≤ 1073741824) (g8 : 0 ≤ y) (g9 : y ≤ 1073741824) (g10 : 0 ≤ p) (g11 : p ≤ 500000) :
    Calls Try.prog 3 #[.int .i64 th, .int .i64 st, .int .i64 bk, .int .i64 x, .int .i64 y, .int .i64 p, .bool true, .bool true] w fun e w' => e = .returned (.bool true) ∧ Below w.heap.size w w' := by
  have hp : PDelay.Rate p := by unfold PDelay.Rate; omega
  have HA := PDelay.first_bound (n := th + st + bk) (by omega) hp true
  have HC := PDelay.second_bound (m := st) (by omega) hp true
  obtain ⟨i1, i2⟩ := PDelay.show_in (n := th + st + bk) (by omega) hp true
  obtain ⟨j1, j2⟩ := PDelay.show_in (n := st) (by omega) hp false
  simp only [reduceIte, Bool.false_eq_true] at HA HC i1 i2 j1 j2
  have K1 := Lib.hid (fun w' => Ratio_c w' (th + st + bk) (1000000 + p) 1000000 false (by omega) (by omega) (by omega) (by omega) (by omega) (by omega))
  have K2 := Lib.hid (fun w' => Ratio_c w' st (1000000 - p) 1000000 true (by omega) (by omega) (by omega) (by omega) (by omega) (by omega))
  obtain ⟨u, hu⟩ : ∃ u, PSpan.dn (th + st + bk) (1000000 + p) 1000000 = u := ⟨_, rfl⟩
  obtain ⟨v, hv⟩ : ∃ v, PSpan.up st (1000000 - p) 1000000 = v := ⟨_, rfl⟩
  have E1 := Lib.hid (show ratio (th + st + bk) (1000000 + p) 1000000 false = u from hu)
  have E2 := Lib.hid (show ratio st (1000000 - p) 1000000 true = v from hv)
  rw [hu] at HA i1 i2
  rw [hv] at HC j1 j2
  clear hu hv
  have HB := Lib.hid (show PDelay.bound x y (y + v) (x + u) p = (PDelay.raw u v p, true) by
    have := PDelay.bound_in (PDelay.went_of (x := x) (y := x + u) (by omega) (by omega) (by omega) (by omega) (by omega) (by omega)) (PDelay.went_of (x := y) (y := y + v) (by omega) (by omega) (by omega) (by omega) (by omega) (by omega)) hp (by omega)
    rwa [show x + u - x = u by omega, show y + v - y = v by omega] at this)
  have HR := show bk ≤ PDelay.raw u v p by unfold PDelay.raw; omega
  clear HA HC hp
  generalize PDelay.raw u v p = r at *
  go_enter Try.func3, Try.ntmps3
  go_wp2_with fail
  refine (begun_c w).mono ?_
  rintro e w1 ⟨rfl, b1⟩
  go_wp2_with fail
  refine (K1.out w1).mono ?_
  rw [E1.out]
  rintro e w2 ⟨rfl, rfl⟩
  go_wp2_with fail
  refine (K2.out w1).mono ?_
  rw [E2.out]
  rintro e w2 ⟨rfl, rfl⟩
  go_wp2_with fail
  refine (Bound_c w1 x y (y + v) (x + u) p).mono ?_
  rw [HB.out]
  rintro e w2 ⟨rfl, b2⟩
  have B2 := Lib.hid (b1.trans (b2.mono b1.size)); clear b1 b2
  go_wp2_with fail
  go_ret
  exact ⟨rfl, B2.out⟩
end Go.Proofs.Ytfidmiakdckljaa
