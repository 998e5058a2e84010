/- Contracts of package span and of the document's own answers: isTime, answer, mayDrift, Add, Sub, Most, Least; Time, Ratio, scaled, Longest, Shortest. -/
import Derived.Test.YtjhfikebnofapaaInt
import Derived.Test.YtjhfikebnofapaaPlainSpan
import Derived.BigQuiet
import Derived.Deep.QuietTactic
namespace Go.Proofs.Ytjhfikebnofapaa
open Go.RowKit

theorem isTime_c (w : World) (a : Int) :
    Calls Try.prog 17 #[.int .i64 a] w fun e w' => e = .returned (.bool (decide (-1099511627776 ≤ a ∧ a ≤ 1099511627776))) ∧ w = w' := by
  have e : decide (-1099511627776 ≤ a ∧ a ≤ 1099511627776) = (decide (-1099511627776 ≤ a) && decide (a ≤ 1099511627776)) := Bool.decide_and ..
  rw [e]; clear e
  by_cases h1 : -1099511627776 ≤ a <;> by_cases h2 : a ≤ 1099511627776
  all_goals
    go_enter Try.func17, Try.ntmps17
    go_wp2_with fail
    go_ret
    exact ⟨by simp [h1, h2], rfl⟩

theorem rTime_c (w : World) (a : Int) :
    Calls Try.prog 19 #[.int .i64 a] w fun e w' => e = .returned (.bool (decide (-1099511627776 ≤ a ∧ a ≤ 1099511627776))) ∧ w = w' := by
  have e : decide (-1099511627776 ≤ a ∧ a ≤ 1099511627776) = (decide (-1099511627776 ≤ a) && decide (a ≤ 1099511627776)) := Bool.decide_and ..
  rw [e]; clear e
  by_cases h1 : -1099511627776 ≤ a <;> by_cases h2 : a ≤ 1099511627776
  all_goals
    go_enter Try.func19, Try.ntmps19
    go_wp2_with fail
    go_ret
    exact ⟨by simp [h1, h2], rfl⟩

theorem answer_c (w : World) (a : Int) :
    Calls Try.prog 18 #[.int .i64 a] w fun e w' => e = .returned (.tuple #[.int .i64 (PSpan.ans a).1, .bool (PSpan.ans a).2]) ∧ w = w' := by
  by_cases h : -1099511627776 ≤ a ∧ a ≤ 1099511627776
  · have e1 := PSpan.ans_in h.1 h.2
    have e2 : decide (-1099511627776 ≤ a ∧ a ≤ 1099511627776) = true := by simp [h]
    have H1 := Lib.hid e1; clear e1
    have H2 := Lib.hid e2; clear e2
    go_enter Try.func18, Try.ntmps18
    go_wp2_with fail
    refine (isTime_c w a).mono ?_
    rw [H2.out]
    rintro e w' ⟨rfl, rfl⟩
    go_wp2_with fail
    go_ret2
    exact ⟨by rw [H1.out]; rfl, rfl⟩
  · have e1 := PSpan.ans_out h
    have e2 : decide (-1099511627776 ≤ a ∧ a ≤ 1099511627776) = false := by simp [h]
    have H1 := Lib.hid e1; clear e1
    have H2 := Lib.hid e2; clear e2
    clear h
    go_enter Try.func18, Try.ntmps18
    go_wp2_with fail
    refine (isTime_c w a).mono ?_
    rw [H2.out]
    rintro e w' ⟨rfl, rfl⟩
    go_wp2_with fail
    go_ret2
    exact ⟨by rw [H1.out]; rfl, rfl⟩

theorem inT {a : Int} (h : -1099511627776 ≤ a ∧ a ≤ 1099511627776) : decide (-1099511627776 ≤ a ∧ a ≤ 1099511627776) = true := by simp [h]
theorem noT {a : Int} (h : ¬ (-1099511627776 ≤ a ∧ a ≤ 1099511627776)) : decide (-1099511627776 ≤ a ∧ a ≤ 1099511627776) = false := by simp [h]

theorem add_c (w : World) (a b : Int) :
    Calls Try.prog 9 #[.int .i64 a, .int .i64 b] w fun e w' => e = .returned (.tuple #[.int .i64 (PSpan.add a b).1, .bool (PSpan.add a b).2]) ∧ w = w' := by
  by_cases ha : -1099511627776 ≤ a ∧ a ≤ 1099511627776
  · by_cases hb : -1099511627776 ≤ b ∧ b ≤ 1099511627776
    · have H1 := Lib.hid (inT ha)
      have H2 := Lib.hid (inT hb)
      have H3 := Lib.hid (show PSpan.add a b = PSpan.ans (a + b) from if_pos ⟨ha, hb⟩)
      obtain ⟨a1, a2⟩ := ha
      obtain ⟨b1, b2⟩ := hb
      go_enter Try.func9, Try.ntmps9
      go_wp2_with fail
      refine (isTime_c w a).mono ?_
      rw [H1.out]
      rintro e w' ⟨rfl, rfl⟩
      go_wp2_with fail
      refine (isTime_c w b).mono ?_
      rw [H2.out]
      rintro e w' ⟨rfl, rfl⟩
      go_wp2_with fail
      refine (answer_c w (a + b)).mono ?_
      rintro e w' ⟨rfl, rfl⟩
      go_wp2_with fail
      go_ret2
      exact ⟨by rw [H3.out]; rfl, rfl⟩
    · have H1 := Lib.hid (inT ha)
      have H2 := Lib.hid (noT hb)
      have H3 := Lib.hid (show PSpan.add a b = (0, false) from if_neg (fun h => hb h.2))
      clear ha hb
      go_enter Try.func9, Try.ntmps9
      go_wp2_with fail
      refine (isTime_c w a).mono ?_
      rw [H1.out]
      rintro e w' ⟨rfl, rfl⟩
      go_wp2_with fail
      refine (isTime_c w b).mono ?_
      rw [H2.out]
      rintro e w' ⟨rfl, rfl⟩
      go_wp2_with fail
      go_ret2
      exact ⟨by rw [H3.out]; rfl, rfl⟩
  · have H1 := Lib.hid (noT ha)
    have H3 := Lib.hid (show PSpan.add a b = (0, false) from if_neg (fun h => ha h.1))
    clear ha
    go_enter Try.func9, Try.ntmps9
    go_wp2_with fail
    refine (isTime_c w a).mono ?_
    rw [H1.out]
    rintro e w' ⟨rfl, rfl⟩
    go_wp2_with fail
    go_ret2
    exact ⟨by rw [H3.out]; rfl, rfl⟩

theorem rAdd_c (w : World) (a b : Int) :
    Calls Try.prog 10 #[.int .i64 a, .int .i64 b] w fun e w' => e = .returned (.tuple #[.int .i64 (PSpan.add a b).1, .bool (PSpan.add a b).2]) ∧ w = w' := by
  by_cases ha : -1099511627776 ≤ a ∧ a ≤ 1099511627776
  · by_cases hb : -1099511627776 ≤ b ∧ b ≤ 1099511627776
    · by_cases ht : -1099511627776 ≤ a + b ∧ a + b ≤ 1099511627776
      · have H1 := Lib.hid (inT ha)
        have H2 := Lib.hid (inT hb)
        have H4 := Lib.hid (inT ht)
        have H3 := Lib.hid (show PSpan.add a b = (a + b, true) from (if_pos ⟨ha, hb⟩ : PSpan.add a b = PSpan.ans (a + b)).trans (PSpan.ans_in ht.1 ht.2))
        clear ht
        obtain ⟨a1, a2⟩ := ha
        obtain ⟨b1, b2⟩ := hb
        go_enter Try.func10, Try.ntmps10
        go_wp2_with fail
        refine (rTime_c w a).mono ?_
        rw [H1.out]
        rintro e w' ⟨rfl, rfl⟩
        go_wp2_with fail
        refine (rTime_c w b).mono ?_
        rw [H2.out]
        rintro e w' ⟨rfl, rfl⟩
        go_wp2_with fail
        refine (rTime_c w (a + b)).mono ?_
        rw [H4.out]
        rintro e w' ⟨rfl, rfl⟩
        go_wp2_with fail
        go_ret2
        exact ⟨by rw [H3.out]; rfl, rfl⟩
      · have H1 := Lib.hid (inT ha)
        have H2 := Lib.hid (inT hb)
        have H4 := Lib.hid (noT ht)
        have H3 := Lib.hid (show PSpan.add a b = (0, false) from (if_pos ⟨ha, hb⟩ : PSpan.add a b = PSpan.ans (a + b)).trans (PSpan.ans_out ht))
        clear ht
        obtain ⟨a1, a2⟩ := ha
        obtain ⟨b1, b2⟩ := hb
        go_enter Try.func10, Try.ntmps10
        go_wp2_with fail
        refine (rTime_c w a).mono ?_
        rw [H1.out]
        rintro e w' ⟨rfl, rfl⟩
        go_wp2_with fail
        refine (rTime_c w b).mono ?_
        rw [H2.out]
        rintro e w' ⟨rfl, rfl⟩
        go_wp2_with fail
        refine (rTime_c w (a + b)).mono ?_
        rw [H4.out]
        rintro e w' ⟨rfl, rfl⟩
        go_wp2_with fail
        go_ret2
        exact ⟨by rw [H3.out]; rfl, rfl⟩
    · have H1 := Lib.hid (inT ha)
      have H2 := Lib.hid (noT hb)
      have H3 := Lib.hid (show PSpan.add a b = (0, false) from if_neg (fun h => hb h.2))
      clear ha hb
      go_enter Try.func10, Try.ntmps10
      go_wp2_with fail
      refine (rTime_c w a).mono ?_
      rw [H1.out]
      rintro e w' ⟨rfl, rfl⟩
      go_wp2_with fail
      refine (rTime_c w b).mono ?_
      rw [H2.out]
      rintro e w' ⟨rfl, rfl⟩
      go_wp2_with fail
      go_ret2
      exact ⟨by rw [H3.out]; rfl, rfl⟩
  · have H1 := Lib.hid (noT ha)
    have H3 := Lib.hid (show PSpan.add a b = (0, false) from if_neg (fun h => ha h.1))
    clear ha
    go_enter Try.func10, Try.ntmps10
    go_wp2_with fail
    refine (rTime_c w a).mono ?_
    rw [H1.out]
    rintro e w' ⟨rfl, rfl⟩
    go_wp2_with fail
    go_ret2
    exact ⟨by rw [H3.out]; rfl, rfl⟩

theorem sub_c (w : World) (a b : Int) :
    Calls Try.prog 11 #[.int .i64 a, .int .i64 b] w fun e w' => e = .returned (.tuple #[.int .i64 (PSpan.sub a b).1, .bool (PSpan.sub a b).2]) ∧ w = w' := by
  by_cases ha : -1099511627776 ≤ a ∧ a ≤ 1099511627776
  · by_cases hb : -1099511627776 ≤ b ∧ b ≤ 1099511627776
    · have H1 := Lib.hid (inT ha)
      have H2 := Lib.hid (inT hb)
      have H3 := Lib.hid (show PSpan.sub a b = PSpan.ans (a - b) from if_pos ⟨ha, hb⟩)
      obtain ⟨a1, a2⟩ := ha
      obtain ⟨b1, b2⟩ := hb
      go_enter Try.func11, Try.ntmps11
      go_wp2_with fail
      refine (isTime_c w a).mono ?_
      rw [H1.out]
      rintro e w' ⟨rfl, rfl⟩
      go_wp2_with fail
      refine (isTime_c w b).mono ?_
      rw [H2.out]
      rintro e w' ⟨rfl, rfl⟩
      go_wp2_with fail
      refine (answer_c w (a - b)).mono ?_
      rintro e w' ⟨rfl, rfl⟩
      go_wp2_with fail
      go_ret2
      exact ⟨by rw [H3.out]; rfl, rfl⟩
    · have H1 := Lib.hid (inT ha)
      have H2 := Lib.hid (noT hb)
      have H3 := Lib.hid (show PSpan.sub a b = (0, false) from if_neg (fun h => hb h.2))
      clear ha hb
      go_enter Try.func11, Try.ntmps11
      go_wp2_with fail
      refine (isTime_c w a).mono ?_
      rw [H1.out]
      rintro e w' ⟨rfl, rfl⟩
      go_wp2_with fail
      refine (isTime_c w b).mono ?_
      rw [H2.out]
      rintro e w' ⟨rfl, rfl⟩
      go_wp2_with fail
      go_ret2
      exact ⟨by rw [H3.out]; rfl, rfl⟩
  · have H1 := Lib.hid (noT ha)
    have H3 := Lib.hid (show PSpan.sub a b = (0, false) from if_neg (fun h => ha h.1))
    clear ha
    go_enter Try.func11, Try.ntmps11
    go_wp2_with fail
    refine (isTime_c w a).mono ?_
    rw [H1.out]
    rintro e w' ⟨rfl, rfl⟩
    go_wp2_with fail
    go_ret2
    exact ⟨by rw [H3.out]; rfl, rfl⟩

theorem rSub_c (w : World) (a b : Int) :
    Calls Try.prog 12 #[.int .i64 a, .int .i64 b] w fun e w' => e = .returned (.tuple #[.int .i64 (PSpan.sub a b).1, .bool (PSpan.sub a b).2]) ∧ w = w' := by
  by_cases ha : -1099511627776 ≤ a ∧ a ≤ 1099511627776
  · by_cases hb : -1099511627776 ≤ b ∧ b ≤ 1099511627776
    · by_cases ht : -1099511627776 ≤ a - b ∧ a - b ≤ 1099511627776
      · have H1 := Lib.hid (inT ha)
        have H2 := Lib.hid (inT hb)
        have H4 := Lib.hid (inT ht)
        have H3 := Lib.hid (show PSpan.sub a b = (a - b, true) from (if_pos ⟨ha, hb⟩ : PSpan.sub a b = PSpan.ans (a - b)).trans (PSpan.ans_in ht.1 ht.2))
        clear ht
        obtain ⟨a1, a2⟩ := ha
        obtain ⟨b1, b2⟩ := hb
        go_enter Try.func12, Try.ntmps12
        go_wp2_with fail
        refine (rTime_c w a).mono ?_
        rw [H1.out]
        rintro e w' ⟨rfl, rfl⟩
        go_wp2_with fail
        refine (rTime_c w b).mono ?_
        rw [H2.out]
        rintro e w' ⟨rfl, rfl⟩
        go_wp2_with fail
        refine (rTime_c w (a - b)).mono ?_
        rw [H4.out]
        rintro e w' ⟨rfl, rfl⟩
        go_wp2_with fail
        go_ret2
        exact ⟨by rw [H3.out]; rfl, rfl⟩
      · have H1 := Lib.hid (inT ha)
        have H2 := Lib.hid (inT hb)
        have H4 := Lib.hid (noT ht)
        have H3 := Lib.hid (show PSpan.sub a b = (0, false) from (if_pos ⟨ha, hb⟩ : PSpan.sub a b = PSpan.ans (a - b)).trans (PSpan.ans_out ht))
        clear ht
        obtain ⟨a1, a2⟩ := ha
        obtain ⟨b1, b2⟩ := hb
        go_enter Try.func12, Try.ntmps12
        go_wp2_with fail
        refine (rTime_c w a).mono ?_
        rw [H1.out]
        rintro e w' ⟨rfl, rfl⟩
        go_wp2_with fail
        refine (rTime_c w b).mono ?_
        rw [H2.out]
        rintro e w' ⟨rfl, rfl⟩
        go_wp2_with fail
        refine (rTime_c w (a - b)).mono ?_
        rw [H4.out]
        rintro e w' ⟨rfl, rfl⟩
        go_wp2_with fail
        go_ret2
        exact ⟨by rw [H3.out]; rfl, rfl⟩
    · have H1 := Lib.hid (inT ha)
      have H2 := Lib.hid (noT hb)
      have H3 := Lib.hid (show PSpan.sub a b = (0, false) from if_neg (fun h => hb h.2))
      clear ha hb
      go_enter Try.func12, Try.ntmps12
      go_wp2_with fail
      refine (rTime_c w a).mono ?_
      rw [H1.out]
      rintro e w' ⟨rfl, rfl⟩
      go_wp2_with fail
      refine (rTime_c w b).mono ?_
      rw [H2.out]
      rintro e w' ⟨rfl, rfl⟩
      go_wp2_with fail
      go_ret2
      exact ⟨by rw [H3.out]; rfl, rfl⟩
  · have H1 := Lib.hid (noT ha)
    have H3 := Lib.hid (show PSpan.sub a b = (0, false) from if_neg (fun h => ha h.1))
    clear ha
    go_enter Try.func12, Try.ntmps12
    go_wp2_with fail
    refine (rTime_c w a).mono ?_
    rw [H1.out]
    rintro e w' ⟨rfl, rfl⟩
    go_wp2_with fail
    go_ret2
    exact ⟨by rw [H3.out]; rfl, rfl⟩

end Go.Proofs.Ytjhfikebnofapaa
