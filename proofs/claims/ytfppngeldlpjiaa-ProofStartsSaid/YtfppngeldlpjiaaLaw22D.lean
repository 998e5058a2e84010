/- The walk of ProofStarts. -/
import Derived.Test.YtfppngeldlpjiaaPrfK
import Derived.WalkSmall
import Derived.Deep.CutRange
namespace Go.Proofs.Ytfppngeldlpjiaa
open Go.RowKit PProof

set_option maxHeartbeats 2000000 in
set_option maxRecDepth 100000 in
theorem ProofStarts_w (w : World) (a b n m : Int) : Calls Try.prog 5 #[.int .i64 a, .int .i64 b, .int .i64 n, .int .i64 m] w fun e w' => e = .returned (.bool true) ∧ Below w.heap.size w w' := by
  by_cases hab : a = b
  · subst hab
    rcases (by omega : (a < 1) ∨ (1 ≤ a ∧ 1000 < a) ∨ (1 ≤ a ∧ a ≤ 1000)) with k0 | ⟨k0, k1⟩ | ⟨k0, k1⟩
    · go_enter Try.func5, Try.ntmps5
      go_wp2_with fail
      refine (begunP_c w).mono ?_
      rintro e w1 ⟨rfl, b1⟩
      go_wp2_with fail
      go_ret
      exact ⟨rfl, b1⟩
    · go_enter Try.func5, Try.ntmps5
      go_wp2_with fail
      refine (begunP_c w).mono ?_
      rintro e w1 ⟨rfl, b1⟩
      go_wp2_with fail
      go_ret
      exact ⟨rfl, b1⟩
    · go_enter Try.func5, Try.ntmps5
      go_wp2_with fail
      refine (begunP_c w).mono ?_
      rintro e w1 ⟨rfl, b1⟩
      go_wp2_with fail
      go_ret
      exact ⟨rfl, b1⟩
  · have e1 : (a == b) = false := by simpa using hab
    have HNE := Lib.hid hab
    clear hab
    rcases (by omega : (a < 1) ∨ (1 ≤ a ∧ 1000 < a) ∨ (1 ≤ a ∧ a ≤ 1000 ∧ b < 1) ∨ (1 ≤ a ∧ a ≤ 1000 ∧ 1 ≤ b ∧ 1000 < b) ∨ (1 ≤ a ∧ a ≤ 1000 ∧ 1 ≤ b ∧ b ≤ 1000 ∧ n < 0) ∨ (1 ≤ a ∧ a ≤ 1000 ∧ 1 ≤ b ∧ b ≤ 1000 ∧ 0 ≤ n ∧ 60 < n) ∨ (1 ≤ a ∧ a ≤ 1000 ∧ 1 ≤ b ∧ b ≤ 1000 ∧ 0 ≤ n ∧ n ≤ 60 ∧ m < 0) ∨ (1 ≤ a ∧ a ≤ 1000 ∧ 1 ≤ b ∧ b ≤ 1000 ∧ 0 ≤ n ∧ n ≤ 60 ∧ 0 ≤ m ∧ 60 < m) ∨ (1 ≤ a ∧ a ≤ 1000 ∧ 1 ≤ b ∧ b ≤ 1000 ∧ 0 ≤ n ∧ n ≤ 60 ∧ 0 ≤ m ∧ m ≤ 60)) with k0 | ⟨k0, k1⟩ | ⟨k0, k1, k2⟩ | ⟨k0, k1, k2, k3⟩ | ⟨k0, k1, k2, k3, k4⟩ | ⟨k0, k1, k2, k3, k4, k5⟩ | ⟨k0, k1, k2, k3, k4, k5, k6⟩ | ⟨k0, k1, k2, k3, k4, k5, k6, k7⟩ | ⟨k0, k1, k2, k3, k4, k5, k6, k7⟩
    · go_enter Try.func5, Try.ntmps5
      go_wp2_with fail
      refine (begunP_c w).mono ?_
      rintro e w1 ⟨rfl, b1⟩
      go_wp2_with fail
      go_ret
      exact ⟨rfl, b1⟩
    · go_enter Try.func5, Try.ntmps5
      go_wp2_with fail
      refine (begunP_c w).mono ?_
      rintro e w1 ⟨rfl, b1⟩
      go_wp2_with fail
      go_ret
      exact ⟨rfl, b1⟩
    · go_enter Try.func5, Try.ntmps5
      go_wp2_with fail
      refine (begunP_c w).mono ?_
      rintro e w1 ⟨rfl, b1⟩
      go_wp2_with fail
      go_ret
      exact ⟨rfl, b1⟩
    · go_enter Try.func5, Try.ntmps5
      go_wp2_with fail
      refine (begunP_c w).mono ?_
      rintro e w1 ⟨rfl, b1⟩
      go_wp2_with fail
      go_ret
      exact ⟨rfl, b1⟩
    · go_enter Try.func5, Try.ntmps5
      go_wp2_with fail
      refine (begunP_c w).mono ?_
      rintro e w1 ⟨rfl, b1⟩
      go_wp2_with fail
      go_ret
      exact ⟨rfl, b1⟩
    · go_enter Try.func5, Try.ntmps5
      go_wp2_with fail
      refine (begunP_c w).mono ?_
      rintro e w1 ⟨rfl, b1⟩
      go_wp2_with fail
      go_ret
      exact ⟨rfl, b1⟩
    · go_enter Try.func5, Try.ntmps5
      go_wp2_with fail
      refine (begunP_c w).mono ?_
      rintro e w1 ⟨rfl, b1⟩
      go_wp2_with fail
      go_ret
      exact ⟨rfl, b1⟩
    · go_enter Try.func5, Try.ntmps5
      go_wp2_with fail
      refine (begunP_c w).mono ?_
      rintro e w1 ⟨rfl, b1⟩
      go_wp2_with fail
      go_ret
      exact ⟨rfl, b1⟩
    · obtain ⟨B, hB⟩ : ∃ B, a * 1048576 = B := ⟨_, rfl⟩
      obtain ⟨C, hC⟩ : ∃ C, b * 1048576 = C := ⟨_, rfl⟩
      have HBC := Lib.hid (show B + 1048576 ≤ C ∨ C + 1048576 ≤ B by have := HNE.out; omega)
      have bB0 : 1048576 ≤ B := by omega
      have bB1 : B ≤ 1048576000 := by omega
      have bC0 : 1048576 ≤ C := by omega
      have bC1 : C ≤ 1048576000 := by omega
      go_enter Try.func5, Try.ntmps5
      go_wp2_with fail
      refine (begunP_c w).mono ?_
      rintro e w1 ⟨rfl, b1⟩
      go_wp2_with fail
      refine (Sp.new b1 B (by omega) (by omega)).mono ?_
      rintro e w2 ⟨rfl, s, b2⟩
      have S2 := Lib.hid s
      have L2 := Lib.hid b1.size
      have B2 := Lib.hid (b1.trans (b2.mono b1.size))
      have LT := Lib.hid s.f.lt
      clear s b1 b2
      generalize w1.heap.size = g at *
      go_wp2_with fail
      refine (Sp.new B2.out C (by omega) (by omega)).mono ?_
      rintro e w3 ⟨rfl, s, b3⟩
      have P3 : Hid (Sp w w3 g B B (List.replicate 64 0) false 0 0) := Lib.hid (S2.out.past b3)
      have Q3 : Hid (Sp w w3 w2.heap.size C C (List.replicate 64 0) false 0 0) := Lib.hid s
      have NE := Lib.hid (show g ≠ w2.heap.size by have := LT.out; omega)
      clear s b3 S2 L2 B2 LT
      generalize w2.heap.size = g2 at *
      generalize List.replicate 64 (0 : Int) = A0 at *
      go_wp2_with fail
      go_loopw [12] (fun s12 wr => ∃ (i : Nat) (x y : Int) (A A' : List Int), s12 = .int .i64 i ∧ i ≤ 60 ∧ B ≤ x ∧ x ≤ B + i ∧ C ≤ y ∧ y ≤ C + i ∧ Hid (Sp w wr g x B A false 0 0) ∧ Hid (Sp w wr g2 y C A' false 0 0)) (fun s12 _ => (60 - intOf s12).toNat)
      case atStart => exact ⟨0, B, C, A0, A0, rfl, by omega, by omega, by omega, by omega, by omega, P3, Q3⟩
      case round =>
        clear P3 Q3
        obtain ⟨i, x, y, A, A', rfl, hi, hx1, hx2, hy1, hy2, HP, HQ⟩ := hrel
        by_cases hn : (i : Int) < n
        · by_cases hm : (i : Int) < m
          · go_wp2_with fail
            refine (HP.out.ask 1 (by decide) (by omega)).mono ?_
            rintro e w4 ⟨rfl, s, t4⟩
            have HQ := Lib.hid (HQ.out.far t4 HP.out.own (fun h => NE.out h.symm))
            have HP := Lib.hid s
            clear s t4
            go_wp2_with fail
            refine (HQ.out.ask 1 (by decide) (by omega)).mono ?_
            rintro e w5 ⟨rfl, s, t5⟩
            have HP := Lib.hid (HP.out.far t5 HQ.out.own NE.out)
            have HQ := Lib.hid s
            clear s t5
            go_wp2_with fail
            go_roundw
            case rel => exact ⟨i + 1, x + 1, y + 1, _, _, by go_num, by omega, by omega, by omega, by omega, by omega, HP, HQ⟩
            case measure => simp [intOf]; omega
          · go_wp2_with fail
            refine (HP.out.ask 1 (by decide) (by omega)).mono ?_
            rintro e w4 ⟨rfl, s, t4⟩
            have HQ := Lib.hid (HQ.out.far t4 HP.out.own (fun h => NE.out h.symm))
            have HP := Lib.hid s
            clear s t4
            go_wp2_with fail
            go_roundw
            case rel => exact ⟨i + 1, x + 1, y, _, _, by go_num, by omega, by omega, by omega, by omega, by omega, HP, HQ⟩
            case measure => simp [intOf]; omega
        · by_cases hm : (i : Int) < m
          · go_wp2_with fail
            refine (HQ.out.ask 1 (by decide) (by omega)).mono ?_
            rintro e w5 ⟨rfl, s, t5⟩
            have HP := Lib.hid (HP.out.far t5 HQ.out.own NE.out)
            have HQ := Lib.hid s
            clear s t5
            go_wp2_with fail
            go_roundw
            case rel => exact ⟨i + 1, x, y + 1, _, _, by go_num, by omega, by omega, by omega, by omega, by omega, HP, HQ⟩
            case measure => simp [intOf]; omega
          · have hx3 : x ≤ B + 60 := by omega
            have hb2 : 0 ≤ y := by omega
            clear hy1 hy2 HQ hx2 hb2
            go_wp2_with fail
            go_loopw [13] (fun s13 wx => ∃ j : Nat, s13 = .int .i64 ((j : Int) + 1) ∧ (j : Int) ≤ m ∧ wx = wr) (fun s13 _ => (m + 1 - intOf s13).toNat)
            case atStart => exact ⟨0, rfl, by omega, rfl⟩
            case round =>
              obtain ⟨j, rfl, hj, rfl⟩ := hrel
              by_cases hjm : (j : Int) < m
              · go_wp2_with fail
                refine (HP.out.got (C + ((j : Int) + 1)) 0 (decide_eq_false (by have := HBC.out; omega))).mono ?_
                rintro e w6 ⟨rfl, rfl⟩
                go_wp2_with fail
                go_roundw
                case rel => exact ⟨j + 1, by go_num, by omega, trivial⟩
                case measure => simp [intOf]; omega
              · go_wp2_with fail
                refine (HP.out.good 1 0 (by decide) (good_no (by simp))).mono ?_
                rintro e w6 ⟨rfl, rfl⟩
                go_wp2_with fail
                go_ret
                exact ⟨rfl, HP.out.bel⟩
end Go.Proofs.Ytfppngeldlpjiaa
