/- The contract of span.Sub. -/
import Derived.Test.YtfidmiakdckljaaSpanD
namespace Go.Proofs.Ytfidmiakdckljaa
open Go.RowKit

theorem sub_c (w : World) (a b : Int) :
    Calls Try.prog 16 #[.int .i64 a, .int .i64 b] w fun e w' => e = .returned (.tuple #[.int .i64 (PSpan.sub a b).1, .bool (PSpan.sub a b).2]) ∧ w = w' := by
  by_cases ha : -1099511627776 ≤ a ∧ a ≤ 1099511627776
  · by_cases hb : -1099511627776 ≤ b ∧ b ≤ 1099511627776
    · have H1 := Lib.hid (inT ha)
      have H2 := Lib.hid (inT hb)
      have H3 := Lib.hid (show PSpan.sub a b = PSpan.ans (a - b) from if_pos ⟨ha, hb⟩)
      obtain ⟨a1, a2⟩ := ha
      obtain ⟨b1, b2⟩ := hb
      go_enter Try.func16, Try.ntmps16
      go_wp2_with fail
      refine (isTime_c w a).mono ?_
      rw [H1.out]
      rintro e w' ⟨rfl, rfl⟩
      go_wp2_with fail
      refine (isTime_c w b).mono ?_
      rw [H2.out]
      rintro e w' ⟨rfl, rfl⟩
      go_wp2_with fail
      refine (answer_c w (a - b)).mono ?_
      rintro e w' ⟨rfl, rfl⟩
      go_wp2_with fail
      go_ret2
      exact ⟨by rw [H3.out]; rfl, rfl⟩
    · have H1 := Lib.hid (inT ha)
      have H2 := Lib.hid (noT hb)
      have H3 := Lib.hid (show PSpan.sub a b = (0, false) from if_neg (fun h => hb h.2))
      clear ha hb
      go_enter Try.func16, Try.ntmps16
      go_wp2_with fail
      refine (isTime_c w a).mono ?_
      rw [H1.out]
      rintro e w' ⟨rfl, rfl⟩
      go_wp2_with fail
      refine (isTime_c w b).mono ?_
      rw [H2.out]
      rintro e w' ⟨rfl, rfl⟩
      go_wp2_with fail
      go_ret2
      exact ⟨by rw [H3.out]; rfl, rfl⟩
  · have H1 := Lib.hid (noT ha)
    have H3 := Lib.hid (show PSpan.sub a b = (0, false) from if_neg (fun h => ha h.1))
    clear ha
    go_enter Try.func16, Try.ntmps16
    go_wp2_with fail
    refine (isTime_c w a).mono ?_
    rw [H1.out]
    rintro e w' ⟨rfl, rfl⟩
    go_wp2_with fail
    go_ret2
    exact ⟨by rw [H3.out]; rfl, rfl⟩

end Go.Proofs.Ytfidmiakdckljaa
