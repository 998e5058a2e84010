/- The walk of TallyReset. -/
import Derived.Test.YtkfgnnnlhpaglaaLaw5A
namespace Go.Proofs.Ytkfgnnnlhpaglaa
open Go.RowKit

set_option maxHeartbeats 2000000 in
set_option maxRecDepth 100000 in
theorem TallyReset_w (w : World) (A0 : Option Addr) (c0 n0 : Nat) (l0 : List Int) (h0 : Rd w w.heap.size A0 c0 1 n0 (is l0)) (A1 : Option Addr) (c1 n1 : Nat) (l1 : List Int) (h1 : Rd w w.heap.size A1 c1 1 n1 (is l1)) :
    Calls Try.prog 6 #[.slice A0 n0 c0, .slice A1 n1 c1] w fun e w' => e = .returned (.bool true) ∧ Below w.heap.size w w' := by
  have i0 := h0.le
  have i1 := h0.cap
  have i2 := h1.le
  have i3 := h1.cap
  unfold maxLen at i1 i3
  go_enter Try.func6, Try.ntmps6
  go_wp2_with fail
  refine (begun_c w).mono ?_
  rintro e w1 ⟨rfl, hb1⟩
  have hsz1 := hb1.size
  have T0 : Tl _ _ _ := Ti.new w1 _
  have hb2 := hb1.alloc hsz1 (.cells #[.int .i64 0, .int .i64 0, .int .i64 0, .int .i64 0, .int .i64 0, .int .i64 0, .int .i64 0, .int .i64 0, .int .i64 0, .int .i64 0, .int .i64 0, .int .i64 0, .int .i64 0, .int .i64 0, .int .i64 0, .int .i64 0] 31)
  go_wp2_with fail
  go_loopw [7, 8] (fun s7 s8 wr => ∃ (i : Nat) (z : List Int), i ≤ 60 ∧ i ≤ n0 ∧ s8 = .int .i64 i ∧ s7 = .int .i64 z.sum ∧ PTally.ok z i ∧ Tl wr w1.heap.size z ∧ Below w.heap.size w wr) (fun _ s8 _ => 60 - (intOf s8).toNat)
  case atStart => exact ⟨0, PTally.zero, by omega, by omega, rfl, rfl, PTally.zero_ok, T0, hb2⟩
  case round =>
    clear T0 hb2
    obtain ⟨i, z, hi, hin, rfl, rfl, hz, T, hbr⟩ := hrel
    have hszr := hbr.size
    have hzs := PTally.sum_nonneg hz.2.1
    have hzm := hz.2.2
    have HZ := Lib.hid hz; clear hz
    by_cases hlt : i < n0 ∧ i < 60
    · obtain ⟨q1, q2⟩ := hlt
      obtain ⟨b, o, x, rfl, hc, hd, hx⟩ := (h0.below hbr).int q1
      clear hd hx
      have has := PTally.add_sum HZ.out x
      have hok := PTally.add_ok HZ.out x
      have hin' : PTally.inn x = (decide (0 ≤ x) && decide (x < 16)) := Bool.decide_and _ _
      have HI := Lib.hid hin'; have HAS := Lib.hid has; have HOK := Lib.hid hok
      clear hin' has hok
      by_cases x0 : 0 ≤ x
      all_goals by_cases x1 : x < 16
      all_goals first | (exfalso; omega) | skip
      all_goals
        have hsum := HAS.out
        rw [HI.out] at hsum
        simp only [x0, x1, decide_true, decide_false, Bool.and_true, Bool.and_false, if_true, if_false, Bool.false_eq_true, Int.add_zero] at hsum
        have HSU := Lib.hid hsum; clear hsum
        go_wp2_with fail
        refine (tAdd_c _ _ _ T _ HZ.out (by omega) x).mono ?_
        rintro e w2 ⟨rfl, T2, g2⟩
        have hb2 := hbr.grown g2 hszr (fun k hk => by cases hk; exact hsz1)
        go_wp2_with fail
        go_roundw
        case rel => exact ⟨i + 1, PTally.add z x, by omega, by omega, by go_num, by rw [HSU.out], by exact HOK.out, T2, hb2⟩
        case measure => simp [intOf]; omega
    · by_cases q1 : i < n0
      all_goals
        first | have q2 : ¬ i < 60 := by omega
              | skip
        go_wp2_with fail
        refine (tReset_c _ _ _ T _ HZ.out (by omega)).mono ?_
        rintro e w2 ⟨rfl, T2, g2⟩
        have hb2 := hbr.grown g2 hszr (fun k hk => by cases hk; exact hsz1)
        have hsz2 := hb2.size
        go_wp2_with fail
        refine (tReset_c _ _ _ T2 _ PTally.zero_ok (by omega)).mono ?_
        rw [show PTally.zero.sum = 0 from rfl]
        rintro e w3 ⟨rfl, T3, g3⟩
        have hb3 := hb2.grown g3 hsz2 (fun k hk => by cases hk; exact hsz1)
        clear T2 g2 g3 hb2 hszr HZ hzs hzm T hbr hsz2 hlt
        go_wp2_with fail
        go_loopw [7, 9] (fun s7 s9 wr => ∃ (i : Nat) (z : List Int), i ≤ 60 ∧ i ≤ n1 ∧ s9 = .int .i64 i ∧ s7 = .int .i64 z.sum ∧ PTally.ok z i ∧ Tl wr w1.heap.size z ∧ Below w.heap.size w wr) (fun _ s9 _ => 60 - (intOf s9).toNat)
        case atStart => exact ⟨0, PTally.zero, by omega, by omega, rfl, rfl, PTally.zero_ok, T3, hb3⟩
        case round =>
          clear T3 hb3
          obtain ⟨i, z, hi, hin, rfl, rfl, hz, T, hbr⟩ := hrel
          have hszr := hbr.size
          have hzs := PTally.sum_nonneg hz.2.1
          have hzm := hz.2.2
          have HZ := Lib.hid hz; clear hz
          by_cases hlt : i < n1 ∧ i < 60
          · obtain ⟨q1, q2⟩ := hlt
            obtain ⟨b, o, x, rfl, hc, hd, hx⟩ := (h1.below hbr).int q1
            clear hd hx
            have has := PTally.add_sum HZ.out x
            have hok := PTally.add_ok HZ.out x
            have hin' : PTally.inn x = (decide (0 ≤ x) && decide (x < 16)) := Bool.decide_and _ _
            have HI := Lib.hid hin'; have HAS := Lib.hid has; have HOK := Lib.hid hok
            clear hin' has hok
            by_cases x0 : 0 ≤ x
            all_goals by_cases x1 : x < 16
            all_goals first | (exfalso; omega) | skip
            all_goals
              have hsum := HAS.out
              rw [HI.out] at hsum
              simp only [x0, x1, decide_true, decide_false, Bool.and_true, Bool.and_false, if_true, if_false, Bool.false_eq_true, Int.add_zero] at hsum
              have HSU := Lib.hid hsum; clear hsum
              go_wp2_with fail
              refine (tAdd_c _ _ _ T _ HZ.out (by omega) x).mono ?_
              rintro e w2 ⟨rfl, T2, g2⟩
              have hb2 := hbr.grown g2 hszr (fun k hk => by cases hk; exact hsz1)
              go_wp2_with fail
              go_roundw
              case rel => exact ⟨i + 1, PTally.add z x, by omega, by omega, by go_num, by rw [HSU.out], by exact HOK.out, T2, hb2⟩
              case measure => simp [intOf]; omega
          · by_cases q1 : i < n1
            all_goals
              first | have q2 : ¬ i < 60 := by omega
                    | skip
              go_wp2_with fail
              refine (tSum_c _ _ _ T _ HZ.out (by omega)).mono ?_
              rintro e w' ⟨rfl, rfl⟩
              go_wp2_with fail
              go_ret
              exact ⟨rfl, hbr⟩

end Go.Proofs.Ytkfgnnnlhpaglaa
