/- Contracts of package span that later stages ask: isTime, answer, mayDrift, Add, Most. -/
import Derived.Test.YtfidmiakdckljaaInt
import Derived.Test.YtfidmiakdckljaaPlainSpan
import Derived.BigQuiet
import Derived.Deep.QuietTactic
namespace Go.Proofs.Ytfidmiakdckljaa
open Go.RowKit

theorem isTime_c (w : World) (a : Int) :
    Calls Try.prog 18 #[.int .i64 a] w fun e w' => e = .returned (.bool (decide (-1099511627776 ≤ a ∧ a ≤ 1099511627776))) ∧ w = w' := by
  have e : decide (-1099511627776 ≤ a ∧ a ≤ 1099511627776) = (decide (-1099511627776 ≤ a) && decide (a ≤ 1099511627776)) := Bool.decide_and ..
  rw [e]; clear e
  by_cases h1 : -1099511627776 ≤ a <;> by_cases h2 : a ≤ 1099511627776
  all_goals
    go_enter Try.func18, Try.ntmps18
    go_wp2_with fail
    go_ret
    exact ⟨by simp [h1, h2], rfl⟩

theorem answer_c (w : World) (a : Int) :
    Calls Try.prog 19 #[.int .i64 a] w fun e w' => e = .returned (.tuple #[.int .i64 (PSpan.ans a).1, .bool (PSpan.ans a).2]) ∧ w = w' := by
  by_cases h : -1099511627776 ≤ a ∧ a ≤ 1099511627776
  · have e1 := PSpan.ans_in h.1 h.2
    have e2 : decide (-1099511627776 ≤ a ∧ a ≤ 1099511627776) = true := by simp [h]
    have H1 := Lib.hid e1; clear e1
    have H2 := Lib.hid e2; clear e2
    go_enter Try.func19, Try.ntmps19
    go_wp2_with fail
    refine (isTime_c w a).mono ?_
    rw [H2.out]
    rintro e w' ⟨rfl, rfl⟩
    go_wp2_with fail
    go_ret2
    exact ⟨by rw [H1.out]; rfl, rfl⟩
  · have e1 := PSpan.ans_out h
    have e2 : decide (-1099511627776 ≤ a ∧ a ≤ 1099511627776) = false := by simp [h]
    have H1 := Lib.hid e1; clear e1
    have H2 := Lib.hid e2; clear e2
    clear h
    go_enter Try.func19, Try.ntmps19
    go_wp2_with fail
    refine (isTime_c w a).mono ?_
    rw [H2.out]
    rintro e w' ⟨rfl, rfl⟩
    go_wp2_with fail
    go_ret2
    exact ⟨by rw [H1.out]; rfl, rfl⟩

theorem inT {a : Int} (h : -1099511627776 ≤ a ∧ a ≤ 1099511627776) : decide (-1099511627776 ≤ a ∧ a ≤ 1099511627776) = true := by simp [h]

theorem noT {a : Int} (h : ¬ (-1099511627776 ≤ a ∧ a ≤ 1099511627776)) : decide (-1099511627776 ≤ a ∧ a ≤ 1099511627776) = false := by simp [h]

theorem add_c (w : World) (a b : Int) :
    Calls Try.prog 15 #[.int .i64 a, .int .i64 b] w fun e w' => e = .returned (.tuple #[.int .i64 (PSpan.add a b).1, .bool (PSpan.add a b).2]) ∧ w = w' := by
  by_cases ha : -1099511627776 ≤ a ∧ a ≤ 1099511627776
  · by_cases hb : -1099511627776 ≤ b ∧ b ≤ 1099511627776
    · have H1 := Lib.hid (inT ha)
      have H2 := Lib.hid (inT hb)
      have H3 := Lib.hid (show PSpan.add a b = PSpan.ans (a + b) from if_pos ⟨ha, hb⟩)
      obtain ⟨a1, a2⟩ := ha
      obtain ⟨b1, b2⟩ := hb
      go_enter Try.func15, Try.ntmps15
      go_wp2_with fail
      refine (isTime_c w a).mono ?_
      rw [H1.out]
      rintro e w' ⟨rfl, rfl⟩
      go_wp2_with fail
      refine (isTime_c w b).mono ?_
      rw [H2.out]
      rintro e w' ⟨rfl, rfl⟩
      go_wp2_with fail
      refine (answer_c w (a + b)).mono ?_
      rintro e w' ⟨rfl, rfl⟩
      go_wp2_with fail
      go_ret2
      exact ⟨by rw [H3.out]; rfl, rfl⟩
    · have H1 := Lib.hid (inT ha)
      have H2 := Lib.hid (noT hb)
      have H3 := Lib.hid (show PSpan.add a b = (0, false) from if_neg (fun h => hb h.2))
      clear ha hb
      go_enter Try.func15, Try.ntmps15
      go_wp2_with fail
      refine (isTime_c w a).mono ?_
      rw [H1.out]
      rintro e w' ⟨rfl, rfl⟩
      go_wp2_with fail
      refine (isTime_c w b).mono ?_
      rw [H2.out]
      rintro e w' ⟨rfl, rfl⟩
      go_wp2_with fail
      go_ret2
      exact ⟨by rw [H3.out]; rfl, rfl⟩
  · have H1 := Lib.hid (noT ha)
    have H3 := Lib.hid (show PSpan.add a b = (0, false) from if_neg (fun h => ha h.1))
    clear ha
    go_enter Try.func15, Try.ntmps15
    go_wp2_with fail
    refine (isTime_c w a).mono ?_
    rw [H1.out]
    rintro e w' ⟨rfl, rfl⟩
    go_wp2_with fail
    go_ret2
    exact ⟨by rw [H3.out]; rfl, rfl⟩

theorem okT {a d : Int} (h : PSpan.Ok a d) : decide (PSpan.Ok a d) = true := by simp [h]

theorem okF {a d : Int} (h : ¬ PSpan.Ok a d) : decide (PSpan.Ok a d) = false := by simp [h]

theorem mayDrift_c (w : World) (a d : Int) :
    Calls Try.prog 20 #[.int .i64 a, .int .i64 d] w fun e w' => e = .returned (.bool (decide (PSpan.Ok a d))) ∧ w = w' := by
  by_cases h1 : 0 ≤ a
  · by_cases h2 : a ≤ 1099511627776
    · have HT := Lib.hid (inT (show -1099511627776 ≤ a ∧ a ≤ 1099511627776 by omega))
      by_cases h3 : 0 ≤ d
      · by_cases h4 : d ≤ 500000
        · have H := Lib.hid (okT (show PSpan.Ok a d from ⟨h1, h2, h3, h4⟩))
          go_enter Try.func20, Try.ntmps20
          go_wp2_with fail
          refine (isTime_c w a).mono ?_
          rw [HT.out]
          rintro e w' ⟨rfl, rfl⟩
          go_wp2_with fail
          go_ret
          exact ⟨by rw [H.out]; rfl, rfl⟩
        · have H := Lib.hid (okF (fun h : PSpan.Ok a d => h4 h.2.2.2))
          go_enter Try.func20, Try.ntmps20
          go_wp2_with fail
          refine (isTime_c w a).mono ?_
          rw [HT.out]
          rintro e w' ⟨rfl, rfl⟩
          go_wp2_with fail
          go_ret
          exact ⟨by rw [H.out]; simp [h4], rfl⟩
      · have H := Lib.hid (okF (fun h : PSpan.Ok a d => h3 h.2.2.1))
        go_enter Try.func20, Try.ntmps20
        go_wp2_with fail
        refine (isTime_c w a).mono ?_
        rw [HT.out]
        rintro e w' ⟨rfl, rfl⟩
        go_wp2_with fail
        go_ret
        exact ⟨by rw [H.out]; rfl, rfl⟩
    · have HT := Lib.hid (noT (show ¬ (-1099511627776 ≤ a ∧ a ≤ 1099511627776) by omega))
      have H := Lib.hid (okF (fun h : PSpan.Ok a d => h2 h.2.1))
      go_enter Try.func20, Try.ntmps20
      go_wp2_with fail
      refine (isTime_c w a).mono ?_
      rw [HT.out]
      rintro e w' ⟨rfl, rfl⟩
      go_wp2_with fail
      go_ret
      exact ⟨by rw [H.out]; rfl, rfl⟩
  · have H := Lib.hid (okF (fun h : PSpan.Ok a d => h1 h.1))
    go_enter Try.func20, Try.ntmps20
    go_wp2_with fail
    go_ret
    exact ⟨by rw [H.out]; rfl, rfl⟩

theorem mul_bound {a p A P : Int} (h1 : 0 ≤ a) (h2 : a ≤ A) (h3 : 0 ≤ p) (h4 : p ≤ P) : 0 ≤ a * p ∧ a * p ≤ A * P :=
  ⟨Int.mul_nonneg h1 h3, Int.mul_le_mul h2 h4 h3 (by omega)⟩

theorem Most_c (w : World) (a d : Int) :
    Calls Try.prog 17 #[.int .i64 a, .int .i64 d] w fun e w' => e = .returned (.tuple #[.int .i64 (PSpan.most a d).1, .bool (PSpan.most a d).2]) ∧ w = w' := by
  by_cases h : PSpan.Ok a d
  · have H := Lib.hid (okT h)
    have H3 := Lib.hid (show PSpan.most a d = PSpan.ans ((a * (1000000 + d) + (1000000 - d) - 1) / (1000000 - d)) from if_pos h)
    obtain ⟨h1, h2, h3, h4⟩ := h
    obtain ⟨m1, m2⟩ := mul_bound h1 h2 (show 0 ≤ 1000000 + d by omega) (show 1000000 + d ≤ 1500000 by omega)
    go_enter Try.func17, Try.ntmps17
    go_wp2_with fail
    refine (mayDrift_c w a d).mono ?_
    rw [H.out]
    rintro e w' ⟨rfl, rfl⟩
    go_wp2_with fail
    refine (answer_c w ((a * (1000000 + d) + (1000000 - d) - 1) / (1000000 - d))).mono ?_
    rintro e w' ⟨rfl, rfl⟩
    go_wp2_with fail
    go_ret2
    exact ⟨by rw [H3.out]; rfl, rfl⟩
  · have H := Lib.hid (okF h)
    have H3 := Lib.hid (show PSpan.most a d = (0, false) from if_neg h)
    clear h
    go_enter Try.func17, Try.ntmps17
    go_wp2_with fail
    refine (mayDrift_c w a d).mono ?_
    rw [H.out]
    rintro e w' ⟨rfl, rfl⟩
    go_wp2_with fail
    go_ret2
    exact ⟨by rw [H3.out]; rfl, rfl⟩

end Go.Proofs.Ytfidmiakdckljaa
