/- Contracts of package span that later stages ask, where mayDrift and Most are not in the seat: isTime, answer, Add. -/
import Derived.Test.YtdhiennncjeieaaInt
import Derived.Test.YtdhiennncjeieaaPlainSpan
import Derived.BigQuiet
import Derived.Deep.QuietTactic
namespace Go.Proofs.Ytdhiennncjeieaa
open Go.RowKit

theorem isTime_c (w : World) (a : Int) :
    Calls Try.prog 20 #[.int .i64 a] w fun e w' => e = .returned (.bool (decide (-1099511627776 ≤ a ∧ a ≤ 1099511627776))) ∧ w = w' := by
  have e : decide (-1099511627776 ≤ a ∧ a ≤ 1099511627776) = (decide (-1099511627776 ≤ a) && decide (a ≤ 1099511627776)) := Bool.decide_and ..
  rw [e]; clear e
  by_cases h1 : -1099511627776 ≤ a <;> by_cases h2 : a ≤ 1099511627776
  all_goals
    go_enter Try.func20, Try.ntmps20
    go_wp2_with fail
    go_ret
    exact ⟨by simp [h1, h2], rfl⟩

theorem answer_c (w : World) (a : Int) :
    Calls Try.prog 21 #[.int .i64 a] w fun e w' => e = .returned (.tuple #[.int .i64 (PSpan.ans a).1, .bool (PSpan.ans a).2]) ∧ w = w' := by
  by_cases h : -1099511627776 ≤ a ∧ a ≤ 1099511627776
  · have e1 := PSpan.ans_in h.1 h.2
    have e2 : decide (-1099511627776 ≤ a ∧ a ≤ 1099511627776) = true := by simp [h]
    have H1 := Lib.hid e1; clear e1
    have H2 := Lib.hid e2; clear e2
    go_enter Try.func21, Try.ntmps21
    go_wp2_with fail
    refine (isTime_c w a).mono ?_
    rw [H2.out]
    rintro e w' ⟨rfl, rfl⟩
    go_wp2_with fail
    go_ret2
    exact ⟨by rw [H1.out]; rfl, rfl⟩
  · have e1 := PSpan.ans_out h
    have e2 : decide (-1099511627776 ≤ a ∧ a ≤ 1099511627776) = false := by simp [h]
    have H1 := Lib.hid e1; clear e1
    have H2 := Lib.hid e2; clear e2
    clear h
    go_enter Try.func21, Try.ntmps21
    go_wp2_with fail
    refine (isTime_c w a).mono ?_
    rw [H2.out]
    rintro e w' ⟨rfl, rfl⟩
    go_wp2_with fail
    go_ret2
    exact ⟨by rw [H1.out]; rfl, rfl⟩

theorem inT {a : Int} (h : -1099511627776 ≤ a ∧ a ≤ 1099511627776) : decide (-1099511627776 ≤ a ∧ a ≤ 1099511627776) = true := by simp [h]

theorem noT {a : Int} (h : ¬ (-1099511627776 ≤ a ∧ a ≤ 1099511627776)) : decide (-1099511627776 ≤ a ∧ a ≤ 1099511627776) = false := by simp [h]

theorem add_c (w : World) (a b : Int) :
    Calls Try.prog 19 #[.int .i64 a, .int .i64 b] w fun e w' => e = .returned (.tuple #[.int .i64 (PSpan.add a b).1, .bool (PSpan.add a b).2]) ∧ w = w' := by
  by_cases ha : -1099511627776 ≤ a ∧ a ≤ 1099511627776
  · by_cases hb : -1099511627776 ≤ b ∧ b ≤ 1099511627776
    · have H1 := Lib.hid (inT ha)
      have H2 := Lib.hid (inT hb)
      have H3 := Lib.hid (show PSpan.add a b = PSpan.ans (a + b) from if_pos ⟨ha, hb⟩)
      obtain ⟨a1, a2⟩ := ha
      obtain ⟨b1, b2⟩ := hb
      go_enter Try.func19, Try.ntmps19
      go_wp2_with fail
      refine (isTime_c w a).mono ?_
      rw [H1.out]
      rintro e w' ⟨rfl, rfl⟩
      go_wp2_with fail
      refine (isTime_c w b).mono ?_
      rw [H2.out]
      rintro e w' ⟨rfl, rfl⟩
      go_wp2_with fail
      refine (answer_c w (a + b)).mono ?_
      rintro e w' ⟨rfl, rfl⟩
      go_wp2_with fail
      go_ret2
      exact ⟨by rw [H3.out]; rfl, rfl⟩
    · have H1 := Lib.hid (inT ha)
      have H2 := Lib.hid (noT hb)
      have H3 := Lib.hid (show PSpan.add a b = (0, false) from if_neg (fun h => hb h.2))
      clear ha hb
      go_enter Try.func19, Try.ntmps19
      go_wp2_with fail
      refine (isTime_c w a).mono ?_
      rw [H1.out]
      rintro e w' ⟨rfl, rfl⟩
      go_wp2_with fail
      refine (isTime_c w b).mono ?_
      rw [H2.out]
      rintro e w' ⟨rfl, rfl⟩
      go_wp2_with fail
      go_ret2
      exact ⟨by rw [H3.out]; rfl, rfl⟩
  · have H1 := Lib.hid (noT ha)
    have H3 := Lib.hid (show PSpan.add a b = (0, false) from if_neg (fun h => ha h.1))
    clear ha
    go_enter Try.func19, Try.ntmps19
    go_wp2_with fail
    refine (isTime_c w a).mono ?_
    rw [H1.out]
    rintro e w' ⟨rfl, rfl⟩
    go_wp2_with fail
    go_ret2
    exact ⟨by rw [H3.out]; rfl, rfl⟩
end Go.Proofs.Ytdhiennncjeieaa
