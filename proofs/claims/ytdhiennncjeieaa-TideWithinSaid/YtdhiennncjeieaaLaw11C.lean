/- The walk of TideWithin. -/
import Derived.Test.YtdhiennncjeieaaLaw11B
namespace Go.Proofs.Ytdhiennncjeieaa
open Go.RowKit

set_option maxHeartbeats 4000000 in
theorem TideWithin_w (w : World) (now low width : Int) :
    Calls Try.prog 6 #[.int .i64 now, .int .i64 low, .int .i64 width] w fun e w' => e = .returned (.bool true) ∧ Below w.heap.size w w' := by
  rcases (by omega : now < 0 ∨ ¬ now < 0 ∧ 10000 < now ∨ ¬ now < 0 ∧ ¬ 10000 < now ∧ low < 0 ∨ ¬ now < 0 ∧ ¬ 10000 < now ∧ ¬ low < 0 ∧ 10000 < low ∨ ¬ now < 0 ∧ ¬ 10000 < now ∧ ¬ low < 0 ∧ ¬ 10000 < low ∧ width < 0 ∨ ¬ now < 0 ∧ ¬ 10000 < now ∧ ¬ low < 0 ∧ ¬ 10000 < low ∧ ¬ width < 0 ∧ 1000 < width ∨ (0 ≤ now ∧ now ≤ 10000 ∧ 0 ≤ low ∧ low ≤ 10000 ∧ 0 ≤ width ∧ width ≤ 1000)) with q1 | ⟨q1, q2⟩ | ⟨q1, q2, q3⟩ | ⟨q1, q2, q3, q4⟩ | ⟨q1, q2, q3, q4, q5⟩ | ⟨q1, q2, q3, q4, q5, q6⟩ | ⟨n0, n1, l0, l1, x0, x1⟩
  all_goals
    try
      go_enter Try.func6, Try.ntmps6
      go_wp2_with fail
      refine (begun_c w).mono ?_
      rintro e w1 ⟨rfl, b1⟩
      go_wp2_with fail
      go_ret
      exact ⟨rfl, b1⟩
  · go_enter Try.func6, Try.ntmps6
    go_wp2_with fail
    refine (begun_c w).mono ?_
    rintro e w1 ⟨rfl, b1⟩
    go_wp2_with fail
    refine (new_c w1 now).mono ?_
    rintro e w2 ⟨rfl, d2, b2⟩
    have C2 := Cs.mk' b1 b2 d2 (PTide.new_ok now)
    rw [PTide.new_in ⟨n0, by omega⟩] at C2
    clear d2 b1 b2
    generalize w1.heap.size = g at *
    go_wp2_with fail
    refine (right_c _ g now 0 C2.td C2.ok low (low + width)).mono ?_
    rintro e w3 ⟨rfl, d3, t3⟩
    have C3 := C2.right d3 t3
    have hf : PTide.fits low (low + width) = true := by rw [PTide.fits_iff]; omega
    have e1 : PTide.riN now low (low + width) = max now low := by unfold PTide.riN; rw [if_pos hf]
    have e2 : PTide.riL now 0 low (low + width) = max 0 (now - low - width) := by unfold PTide.riL; rw [if_pos hf]; omega
    rw [e1, e2] at C3
    rw [e1]
    clear d3 t3 C2 e1 e2 hf
    go_wp2_with fail
    refine (lag_c _ g _ _ C3.td).mono ?_
    rintro e w4 ⟨rfl, rfl⟩
    go_wp2_with fail
    refine (now_c _ g _ _ C3.td).mono ?_
    rintro e w4 ⟨rfl, rfl⟩
    obtain ⟨k, hk⟩ : ∃ k : Nat, max 0 (now - low - width) = k := ⟨(max 0 (now - low - width)).toNat, by omega⟩
    obtain ⟨m, hm⟩ : ∃ m : Int, max now low = m := ⟨_, rfl⟩
    rw [hk, hm] at C3 ⊢
    have m0 : 0 ≤ m := by omega
    have m1 : m ≤ 20000 := by omega
    have k1 : k ≤ 20000 := by omega
    have y1 : low + 2 * (k : Int) ≤ m + k := by omega
    have y2 : m + k ≤ low + width + 2 * (k : Int) := by omega
    go_wp2_with fail
    clear hk hm n0 n1
    go_loopw [10] (fun s10 wr => ∃ i : Nat, i ≤ k ∧ s10 = .int .i64 i ∧ Hid (Cs w wr g (m + i) (k - i))) (fun s10 _ => k - (intOf s10).toNat)
    case atStart => exact ⟨0, by omega, rfl, Lib.hid (by simpa using C3)⟩
    case round =>
      clear C3
      obtain ⟨i, hi, rfl, C⟩ := hrel
      by_cases hik : i < k
      · obtain ⟨e1, e2⟩ := two_on (now := m + i) (lag := k - i) (by omega) (by omega)
        go_wp2_with fail
        refine (go_c _ g _ _ C.out.td C.out.ok 2).mono ?_
        rintro e w4 ⟨rfl, d4, t4⟩
        have C4 := C.out.go d4 t4
        rw [e1, e2] at C4
        rw [e1]
        clear d4 t4 C e1 e2
        have HC := Lib.hid C4
        clear C4
        go_wp2_with fail
        go_roundw
        case rel => exact ⟨i + 1, by omega, by go_num, Lib.hid (by
          have := HC.out
          rw [show (m + ((i + 1 : Nat) : Int)) = m + i + 1 by omega, show ((k : Int) - ((i + 1 : Nat) : Int)) = k - i - 1 by omega]
          exact this)⟩
        case measure => simp [intOf]; omega
      · obtain rfl : i = k := by omega
        have C5 := C.out
        rw [Int.sub_self] at C5
        clear C
        go_wp2_with fail
        refine (now_c _ g _ _ C5.td).mono ?_
        rintro e w4 ⟨rfl, rfl⟩
        go_wp2_with fail
        refine (lag_c _ g _ _ C5.td).mono ?_
        rintro e w4 ⟨rfl, rfl⟩
        go_wp2_with fail
        go_ret
        exact ⟨by simp, C5.bel⟩
end Go.Proofs.Ytdhiennncjeieaa
