/- The walk of TideCatches. -/
import Derived.Test.YtdhiennncjeieaaTideC
namespace Go.Proofs.Ytdhiennncjeieaa
open Go.RowKit

/-- Two ticks of a clock that lags. -/
theorem two_on {now lag : Int} (h : 0 < lag) (hn : now + 1 ≤ 1099511627776) : PTide.goN now lag 2 = now + 1 ∧ PTide.goL lag 2 = lag - 1 := by
  obtain ⟨e1, e2⟩ := PTide.go_in (now := now) (lag := lag) (n := 2) (by decide)
  have e3 : PTide.out lag 2 = 1 := by unfold PTide.out; omega
  rw [e1, e2, e3]; omega

set_option maxHeartbeats 2000000 in
theorem TideCatches_w (w : World) (lag : Int) :
    Calls Try.prog 4 #[.int .i64 lag] w fun e w' => e = .returned (.bool true) ∧ Below w.heap.size w w' := by
  rcases (by omega : lag < 0 ∨ ¬ lag < 0 ∧ 1000 < lag ∨ 0 ≤ lag ∧ lag ≤ 1000) with q1 | ⟨q1, q2⟩ | ⟨l0, l1⟩
  · go_enter Try.func4, Try.ntmps4
    go_wp2_with fail
    refine (begun_c w).mono ?_
    rintro e w1 ⟨rfl, b1⟩
    go_wp2_with fail
    go_ret
    exact ⟨rfl, b1⟩
  · go_enter Try.func4, Try.ntmps4
    go_wp2_with fail
    refine (begun_c w).mono ?_
    rintro e w1 ⟨rfl, b1⟩
    go_wp2_with fail
    go_ret
    exact ⟨rfl, b1⟩
  · obtain ⟨k, rfl⟩ : ∃ k : Nat, lag = k := ⟨lag.toNat, by omega⟩
    go_enter Try.func4, Try.ntmps4
    go_wp2_with fail
    refine (begun_c w).mono ?_
    rintro e w1 ⟨rfl, b1⟩
    go_wp2_with fail
    refine (new_c w1 5000).mono ?_
    rintro e w2 ⟨rfl, d2, b2⟩
    have C2 := Cs.mk' b1 b2 d2 (PTide.new_ok 5000)
    rw [show PTide.newN 5000 = 5000 by decide] at C2
    clear d2 b1 b2
    generalize w1.heap.size = g at *
    go_wp2_with fail
    refine (right_c _ g 5000 0 C2.td C2.ok 0 (5000 - k)).mono ?_
    rintro e w3 ⟨rfl, d3, t3⟩
    have C3 := C2.right d3 t3
    have hf : PTide.fits 0 (5000 - k) = true := by rw [PTide.fits_iff]; omega
    have e1 : PTide.riN 5000 0 (5000 - k) = 5000 := by unfold PTide.riN; rw [if_pos hf]; rfl
    have e2 : PTide.riL 5000 0 0 (5000 - k) = k := by unfold PTide.riL; rw [if_pos hf]; omega
    rw [e1, e2] at C3
    rw [e1]
    clear d3 t3 C2 e1 e2 hf
    go_wp2_with fail
    refine (lag_c _ g _ _ C3.td).mono ?_
    rintro e w4 ⟨rfl, rfl⟩
    go_wp2_with fail
    go_loopw [5] (fun s5 wr => ∃ i : Nat, i ≤ k ∧ s5 = .int .i64 i ∧ Hid (Cs w wr g (5000 + i) (k - i))) (fun s5 _ => k - (intOf s5).toNat)
    case atStart => exact ⟨0, by omega, rfl, Lib.hid (by simpa using C3)⟩
    case round =>
      clear C3
      obtain ⟨i, hi, rfl, C⟩ := hrel
      by_cases hik : i < k
      · obtain ⟨e1, e2⟩ := two_on (now := 5000 + i) (lag := k - i) (by omega) (by omega)
        go_wp2_with fail
        refine (go_c _ g _ _ C.out.td C.out.ok 2).mono ?_
        rintro e w4 ⟨rfl, d4, t4⟩
        have C4 := C.out.go d4 t4
        rw [e1, e2] at C4
        rw [e1]
        clear d4 t4 C e1 e2
        have HC := Lib.hid C4
        clear C4
        go_wp2_with fail
        go_roundw
        case rel => exact ⟨i + 1, by omega, by go_num, Lib.hid (by
          have := HC.out
          rw [show (5000 + ((i + 1 : Nat) : Int)) = 5000 + i + 1 by omega, show ((k : Int) - ((i + 1 : Nat) : Int)) = k - i - 1 by omega]
          exact this)⟩
        case measure => simp [intOf]; omega
      · obtain rfl : i = k := by omega
        have C5 := C.out
        rw [Int.sub_self] at C5
        clear C
        go_wp2_with fail
        refine (lag_c _ g _ _ C5.td).mono ?_
        rintro e w4 ⟨rfl, rfl⟩
        go_wp2_with fail
        refine (now_c _ g _ _ C5.td).mono ?_
        rintro e w4 ⟨rfl, rfl⟩
        go_wp2_with fail
        go_ret
        exact ⟨by simp, C5.bel⟩
end Go.Proofs.Ytdhiennncjeieaa
