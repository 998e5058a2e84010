/- Contracts of package delay, the small ones: went, isRate, mostReal, leastReal. -/
import Derived.Test.YtfidmiakdckljaaSpanS
import Derived.Test.YtfidmiakdckljaaPlainDelay
import Derived.Test.YtfidmiakdckljaaHeld
import Derived.Test.YtfidmiakdckljaaBlk
import Derived.Lib.MinMax
namespace Go.Proofs.Ytfidmiakdckljaa
open Go.RowKit

theorem went_c (w : World) (x y : Int) :
    Calls Try.prog 11 #[.int .i64 x, .int .i64 y] w fun e w' => e = .returned (.tuple #[.int .i64 (PDelay.went x y).1, .bool (PDelay.went x y).2]) ∧ w = w' := by
  have H1 := Lib.hid (show PDelay.went x y = ((PSpan.sub y x).1, (PSpan.sub y x).2 && decide (0 ≤ (PSpan.sub y x).1)) from rfl)
  have K := Lib.hid (sub_c w y x)
  generalize PSpan.sub y x = r at *
  generalize PDelay.went x y = o at *
  obtain ⟨a, ok⟩ := r
  cases ok
  · go_enter Try.func11, Try.ntmps11
    go_wp2_with fail
    refine K.out.mono ?_
    rintro e w' ⟨rfl, rfl⟩
    go_wp2_with fail
    go_ret2
    exact ⟨by rw [H1.out]; rfl, rfl⟩
  · by_cases h : 0 ≤ a
    · have H2 := Lib.hid (decide_eq_true h)
      go_enter Try.func11, Try.ntmps11
      go_wp2_with fail
      refine K.out.mono ?_
      rintro e w' ⟨rfl, rfl⟩
      go_wp2_with fail
      go_ret2
      exact ⟨by rw [H1.out]; simp [H2.out], rfl⟩
    · have H2 := Lib.hid (decide_eq_false h)
      go_enter Try.func11, Try.ntmps11
      go_wp2_with fail
      refine K.out.mono ?_
      rintro e w' ⟨rfl, rfl⟩
      go_wp2_with fail
      go_ret2
      exact ⟨by rw [H1.out]; simp [H2.out], rfl⟩

theorem lRate_c (w : World) (d : Int) :
    Calls Try.prog 12 #[.int .i64 d] w fun e w' => e = .returned (.bool (decide (PDelay.Rate d))) ∧ w = w' := by
  have H1 := Lib.hid (show (PSpan.most 0 d).2 = decide (PDelay.Rate d) by
    unfold PSpan.most PDelay.Rate
    by_cases h : 0 ≤ d ∧ d ≤ 500000
    · have e : PSpan.up 0 (1000000 + d) (1000000 - d) = 0 := by
        unfold PSpan.up
        rw [Int.zero_mul]
        exact Int.ediv_eq_zero_of_lt (by omega) (by omega)
      rw [if_pos (by unfold PSpan.Ok; omega), e]; simp [h, PSpan.ans]
    · rw [if_neg (fun h' : PSpan.Ok 0 d => h h'.2.2)]; simp [h])
  generalize decide (PDelay.Rate d) = t at *
  go_enter Try.func12, Try.ntmps12
  go_wp2_with fail
  refine (Most_c w 0 d).mono ?_
  rw [H1.out]
  rintro e w' ⟨rfl, rfl⟩
  go_wp2_with fail
  go_ret
  exact ⟨rfl, rfl⟩

theorem mostReal_c (w : World) (a p : Int) (h1 : 0 ≤ a) (h2 : a ≤ 1099511627776) (hp : PDelay.Rate p) :
    Calls Try.prog 13 #[.int .i64 a, .int .i64 p] w fun e w' => e = .returned (.int .i64 (PSpan.up a 1000000 (1000000 - p))) ∧ w = w' := by
  obtain ⟨p1, p2⟩ := hp
  show Calls _ _ _ _ fun e w' => e = .returned (.int .i64 ((a * 1000000 + (1000000 - p) - 1) / (1000000 - p))) ∧ w = w'
  go_enter Try.func13, Try.ntmps13
  go_wp2_with fail
  go_ret
  exact ⟨rfl, rfl⟩

theorem leastReal_c (w : World) (a p : Int) (h1 : 0 ≤ a) (h2 : a ≤ 1099511627776) (hp : PDelay.Rate p) :
    Calls Try.prog 14 #[.int .i64 a, .int .i64 p] w fun e w' => e = .returned (.int .i64 (PSpan.dn a 1000000 (1000000 + p))) ∧ w = w' := by
  obtain ⟨p1, p2⟩ := hp
  show Calls _ _ _ _ fun e w' => e = .returned (.int .i64 (a * 1000000 / (1000000 + p))) ∧ w = w'
  go_enter Try.func14, Try.ntmps14
  go_wp2_with fail
  go_ret
  exact ⟨rfl, rfl⟩
end Go.Proofs.Ytfidmiakdckljaa
