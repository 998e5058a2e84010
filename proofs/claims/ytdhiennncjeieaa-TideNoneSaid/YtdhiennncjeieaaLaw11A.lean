/- The walks of TideNone, TideSlow. -/
import Derived.Test.YtdhiennncjeieaaTideC
namespace Go.Proofs.Ytdhiennncjeieaa
open Go.RowKit

theorem TideNone_w (w : World) :
    Calls Try.prog 5 #[] w fun e w' => e = .returned (.bool true) ∧ Below w.heap.size w w' := by
  go_enter Try.func5, Try.ntmps5
  go_wp2_with fail
  refine (begun_c w).mono ?_
  rintro e w1 ⟨rfl, b1⟩
  go_wp2_with fail
  refine (go_nil w1 1).mono ?_
  rintro e w2 ⟨rfl, rfl⟩
  go_wp2_with fail
  refine (right_nil _ 0 5).mono ?_
  rintro e w2 ⟨rfl, b2⟩
  have B2 := Lib.hid (b1.trans (b2.mono b1.size))
  clear b1 b2
  go_wp2_with fail
  refine (now_nil w2).mono ?_
  rintro e w3 ⟨rfl, rfl⟩
  go_wp2_with fail
  refine (lag_nil w2).mono ?_
  rintro e w3 ⟨rfl, rfl⟩
  go_wp2_with fail
  go_ret
  exact ⟨rfl, B2.out⟩

set_option maxHeartbeats 1000000 in
theorem TideSlow_bad (w : World) (lag n : Int) (h : lag < 0 ∨ ¬ lag < 0 ∧ 100000 < lag ∨ ¬ lag < 0 ∧ ¬ 100000 < lag ∧ n < 0 ∨ ¬ lag < 0 ∧ ¬ 100000 < lag ∧ ¬ n < 0 ∧ 100000 < n) :
    Calls Try.prog 7 #[.int .i64 lag, .int .i64 n] w fun e w' => e = .returned (.bool true) ∧ Below w.heap.size w w' := by
  rcases h with q1 | ⟨q1, q2⟩ | ⟨q1, q2, q3⟩ | ⟨q1, q2, q3, q4⟩
  all_goals
    go_enter Try.func7, Try.ntmps7
    go_wp2_with fail
    refine (begun_c w).mono ?_
    rintro e w1 ⟨rfl, b1⟩
    go_wp2_with fail
    go_ret
    exact ⟨rfl, b1⟩

set_option maxHeartbeats 2000000 in
theorem TideSlow_w (w : World) (lag n : Int) :
    Calls Try.prog 7 #[.int .i64 lag, .int .i64 n] w fun e w' => e = .returned (.bool true) ∧ Below w.heap.size w w' := by
  by_cases hb : 0 ≤ lag ∧ lag ≤ 100000 ∧ 0 ≤ n ∧ n ≤ 100000
  · obtain ⟨l0, l1, n0, n1⟩ := hb
    go_enter Try.func7, Try.ntmps7
    go_wp2_with fail
    refine (begun_c w).mono ?_
    rintro e w1 ⟨rfl, b1⟩
    go_wp2_with fail
    refine (new_c w1 200000).mono ?_
    rintro e w2 ⟨rfl, d2, b2⟩
    have C2 := Cs.mk' b1 b2 d2 (PTide.new_ok 200000)
    rw [show PTide.newN 200000 = 200000 by decide] at C2
    clear d2 b1 b2
    generalize w1.heap.size = g at *
    go_wp2_with fail
    refine (right_c _ g 200000 0 C2.td C2.ok 0 (200000 - lag)).mono ?_
    rintro e w3 ⟨rfl, d3, t3⟩
    have C3 := C2.right d3 t3
    have hf : PTide.fits 0 (200000 - lag) = true := by rw [PTide.fits_iff]; omega
    have e1 : PTide.riN 200000 0 (200000 - lag) = 200000 := by unfold PTide.riN; rw [if_pos hf]; rfl
    have e2 : PTide.riL 200000 0 0 (200000 - lag) = lag := by unfold PTide.riL; rw [if_pos hf]; omega
    rw [e1, e2] at C3
    rw [e1]
    clear d3 t3 C2 e1 e2 hf
    go_wp2_with fail
    refine (go_c _ g 200000 lag C3.td C3.ok n).mono ?_
    rintro e w4 ⟨rfl, d4, t4⟩
    have C4 := C3.go d4 t4
    obtain ⟨e1, e2⟩ := PTide.go_in (now := 200000) (lag := lag) ((PTide.goes_iff n).2 ⟨n0, by omega⟩)
    have e3 : PTide.out lag n = min lag (n - n / 2) := rfl
    rw [e3] at e1 e2
    have ha : PTide.goN 200000 lag n = 200000 + n - min lag (n - n / 2) := by rw [e1]; omega
    rw [ha, e2] at C4
    rw [ha]
    clear d4 t4 C3 e1 e2 e3 ha
    obtain ⟨a, hA⟩ : ∃ a, a = 200000 + n - min lag (n - n / 2) := ⟨_, rfl⟩
    rw [← hA] at C4 ⊢
    have a0 : 0 ≤ a - 200000 := by omega
    have a1 : a ≤ 1000000 := by omega
    have a2 : n / 2 ≤ a - 200000 := by omega
    have a3 : a - 200000 ≤ n := by omega
    have HA := Lib.hid hA
    clear hA
    go_wp2_with fail
    refine (lag_c _ g _ _ C4.td).mono ?_
    rintro e w5 ⟨rfl, rfl⟩
    go_wp2_with fail
    go_ret
    exact ⟨by simp, C4.bel⟩
  · exact TideSlow_bad w lag n (by omega)
end Go.Proofs.Ytdhiennncjeieaa
