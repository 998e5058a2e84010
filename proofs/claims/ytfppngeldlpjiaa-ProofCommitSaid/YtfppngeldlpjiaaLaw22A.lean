/- The walks of ProofNone, ProofCommit, ProofAge. -/
import Derived.Test.YtfppngeldlpjiaaPrfK
namespace Go.Proofs.Ytfppngeldlpjiaa
open Go.RowKit PProof

set_option maxRecDepth 100000 in
theorem ProofNone_w (w : World) : Calls Try.prog 6 #[] w fun e w' => e = .returned (.bool true) ∧ Below w.heap.size w w' := by
  go_enter Try.func6, Try.ntmps6
  go_wp2_with fail
  refine (pdrop_nil w).mono ?_
  rintro e w1 ⟨rfl, rfl⟩
  go_wp2_with fail
  refine (begunP_c w).mono ?_
  rintro e w1 ⟨rfl, b1⟩
  go_wp2_with fail
  refine (pask_nil w1 1).mono ?_
  rintro e w2 ⟨rfl, rfl⟩
  go_wp2_with fail
  refine (pget_nil w1 1 0).mono ?_
  rintro e w2 ⟨rfl, rfl⟩
  go_wp2_with fail
  refine (pgood_nil w1 1 0).mono ?_
  rintro e w2 ⟨rfl, rfl⟩
  go_wp2_with fail
  refine (pleft_nil w1 1 0).mono ?_
  rintro e w2 ⟨rfl, rfl⟩
  go_wp2_with fail
  go_ret
  exact ⟨rfl, b1⟩

set_option maxHeartbeats 1000000 in
set_option maxRecDepth 100000 in
theorem ProofCommit_w (w : World) (c h : Int) : Calls Try.prog 8 #[.int .i64 c, .int .i64 h] w fun e w' => e = .returned (.bool true) ∧ Below w.heap.size w w' := by
  rcases (by omega : (c < 0) ∨ (0 ≤ c ∧ 60 < c) ∨ (0 ≤ c ∧ c ≤ 60 ∧ h < 0) ∨ (0 ≤ c ∧ c ≤ 60 ∧ 0 ≤ h ∧ 60 < h) ∨ (0 ≤ c ∧ c ≤ 60 ∧ 0 ≤ h ∧ h ≤ 60)) with k0 | ⟨k0, k1⟩ | ⟨k0, k1, k2⟩ | ⟨k0, k1, k2, k3⟩ | ⟨k0, k1, k2, k3⟩
  · go_enter Try.func8, Try.ntmps8
    go_wp2_with fail
    refine (begunP_c w).mono ?_
    rintro e w1 ⟨rfl, b1⟩
    go_wp2_with fail
    go_ret
    exact ⟨rfl, b1⟩
  · go_enter Try.func8, Try.ntmps8
    go_wp2_with fail
    refine (begunP_c w).mono ?_
    rintro e w1 ⟨rfl, b1⟩
    go_wp2_with fail
    go_ret
    exact ⟨rfl, b1⟩
  · go_enter Try.func8, Try.ntmps8
    go_wp2_with fail
    refine (begunP_c w).mono ?_
    rintro e w1 ⟨rfl, b1⟩
    go_wp2_with fail
    go_ret
    exact ⟨rfl, b1⟩
  · go_enter Try.func8, Try.ntmps8
    go_wp2_with fail
    refine (begunP_c w).mono ?_
    rintro e w1 ⟨rfl, b1⟩
    go_wp2_with fail
    go_ret
    exact ⟨rfl, b1⟩
  · go_enter Try.func8, Try.ntmps8
    go_wp2_with fail
    refine (begunP_c w).mono ?_
    rintro e w1 ⟨rfl, b1⟩
    go_wp2_with fail
    refine (Sp.new b1 7 (by decide) (by decide)).mono ?_
    rintro e w2 ⟨rfl, s, -⟩
    have S2 := Lib.hid s
    clear s b1
    generalize w1.heap.size = g at *
    go_wp2_with fail
    refine (S2.out.ask 3 (by decide) (by decide)).mono ?_
    rintro e w3 ⟨he, s, -⟩
    have he : e = .returned (.int .i64 8) := he
    subst he
    have S3 : Hid (Sp w w3 g 8 7 (askA (List.replicate 64 0) 7 3) false 0 0) := Lib.hid s
    have HT := Lib.hid (show tm (askA (List.replicate 64 0) 7 3) 8 = 3 from tm_new rfl 7 3)
    clear s S2
    generalize askA (List.replicate 64 0) 7 3 = A at *
    go_wp2_with fail
    refine (S3.out.get 8 c (by decide)).mono ?_
    rw [HT.out]
    rintro e w4 ⟨rfl, s, -⟩
    have S4 := Lib.hid s
    clear s S3
    by_cases k : c ≤ h
    · go_wp2_with fail
      refine (S4.out.good 5 h (by decide) (good_yes (by decide) k (by decide))).mono ?_
      rintro e w5 ⟨rfl, rfl⟩
      go_wp2_with fail
      refine S4.out.drop.mono ?_
      rintro e w6 ⟨rfl, s, -⟩
      have S6 := Lib.hid s
      clear s S4
      go_wp2_with fail
      refine (S6.out.good 5 60 (by decide) (good_no (by simp))).mono ?_
      rintro e w7 ⟨rfl, rfl⟩
      go_wp2_with fail
      refine (S6.out.got 8 c (by decide)).mono ?_
      rintro e w7 ⟨rfl, rfl⟩
      go_wp2_with fail
      refine (S6.out.ask 4 (by decide) (by decide)).mono ?_
      rintro e w8 ⟨he, s, -⟩
      have he : e = .returned (.int .i64 9) := he
      subst he
      go_wp2_with fail
      go_ret
      exact ⟨by first | rfl | (simp [k]; done), s.bel⟩
    · go_wp2_with fail
      refine (S4.out.good 5 h (by decide) (good_no (by simp; omega))).mono ?_
      rintro e w5 ⟨rfl, rfl⟩
      go_wp2_with fail
      refine S4.out.drop.mono ?_
      rintro e w6 ⟨rfl, s, -⟩
      have S6 := Lib.hid s
      clear s S4
      go_wp2_with fail
      refine (S6.out.good 5 60 (by decide) (good_no (by simp))).mono ?_
      rintro e w7 ⟨rfl, rfl⟩
      go_wp2_with fail
      refine (S6.out.got 8 c (by decide)).mono ?_
      rintro e w7 ⟨rfl, rfl⟩
      go_wp2_with fail
      refine (S6.out.ask 4 (by decide) (by decide)).mono ?_
      rintro e w8 ⟨he, s, -⟩
      have he : e = .returned (.int .i64 9) := he
      subst he
      go_wp2_with fail
      go_ret
      exact ⟨by first | rfl | (simp [k]; done), s.bel⟩

set_option maxHeartbeats 2000000 in
set_option maxRecDepth 100000 in
theorem ProofAge_w (w : World) (a l t c : Int) : Calls Try.prog 7 #[.int .i64 a, .int .i64 l, .int .i64 t, .int .i64 c] w fun e w' => e = .returned (.bool true) ∧ Below w.heap.size w w' := by
  rcases (by omega : (a < 0) ∨ (0 ≤ a ∧ 1000 < a) ∨ (0 ≤ a ∧ a ≤ 1000 ∧ l < 0) ∨ (0 ≤ a ∧ a ≤ 1000 ∧ 0 ≤ l ∧ 40 < l) ∨ (0 ≤ a ∧ a ≤ 1000 ∧ 0 ≤ l ∧ l ≤ 40 ∧ t < 0) ∨ (0 ≤ a ∧ a ≤ 1000 ∧ 0 ≤ l ∧ l ≤ 40 ∧ 0 ≤ t ∧ 40 < t) ∨ (0 ≤ a ∧ a ≤ 1000 ∧ 0 ≤ l ∧ l ≤ 40 ∧ 0 ≤ t ∧ t ≤ 40 ∧ c < 0) ∨ (0 ≤ a ∧ a ≤ 1000 ∧ 0 ≤ l ∧ l ≤ 40 ∧ 0 ≤ t ∧ t ≤ 40 ∧ 0 ≤ c ∧ 60 < c) ∨ (0 ≤ a ∧ a ≤ 1000 ∧ 0 ≤ l ∧ l ≤ 40 ∧ 0 ≤ t ∧ t ≤ 40 ∧ 0 ≤ c ∧ c ≤ 60)) with k0 | ⟨k0, k1⟩ | ⟨k0, k1, k2⟩ | ⟨k0, k1, k2, k3⟩ | ⟨k0, k1, k2, k3, k4⟩ | ⟨k0, k1, k2, k3, k4, k5⟩ | ⟨k0, k1, k2, k3, k4, k5, k6⟩ | ⟨k0, k1, k2, k3, k4, k5, k6, k7⟩ | ⟨k0, k1, k2, k3, k4, k5, k6, k7⟩
  · go_enter Try.func7, Try.ntmps7
    go_wp2_with fail
    refine (begunP_c w).mono ?_
    rintro e w1 ⟨rfl, b1⟩
    go_wp2_with fail
    go_ret
    exact ⟨rfl, b1⟩
  · go_enter Try.func7, Try.ntmps7
    go_wp2_with fail
    refine (begunP_c w).mono ?_
    rintro e w1 ⟨rfl, b1⟩
    go_wp2_with fail
    go_ret
    exact ⟨rfl, b1⟩
  · go_enter Try.func7, Try.ntmps7
    go_wp2_with fail
    refine (begunP_c w).mono ?_
    rintro e w1 ⟨rfl, b1⟩
    go_wp2_with fail
    go_ret
    exact ⟨rfl, b1⟩
  · go_enter Try.func7, Try.ntmps7
    go_wp2_with fail
    refine (begunP_c w).mono ?_
    rintro e w1 ⟨rfl, b1⟩
    go_wp2_with fail
    go_ret
    exact ⟨rfl, b1⟩
  · go_enter Try.func7, Try.ntmps7
    go_wp2_with fail
    refine (begunP_c w).mono ?_
    rintro e w1 ⟨rfl, b1⟩
    go_wp2_with fail
    go_ret
    exact ⟨rfl, b1⟩
  · go_enter Try.func7, Try.ntmps7
    go_wp2_with fail
    refine (begunP_c w).mono ?_
    rintro e w1 ⟨rfl, b1⟩
    go_wp2_with fail
    go_ret
    exact ⟨rfl, b1⟩
  · go_enter Try.func7, Try.ntmps7
    go_wp2_with fail
    refine (begunP_c w).mono ?_
    rintro e w1 ⟨rfl, b1⟩
    go_wp2_with fail
    go_ret
    exact ⟨rfl, b1⟩
  · go_enter Try.func7, Try.ntmps7
    go_wp2_with fail
    refine (begunP_c w).mono ?_
    rintro e w1 ⟨rfl, b1⟩
    go_wp2_with fail
    go_ret
    exact ⟨rfl, b1⟩
  · go_enter Try.func7, Try.ntmps7
    go_wp2_with fail
    refine (begunP_c w).mono ?_
    rintro e w1 ⟨rfl, b1⟩
    go_wp2_with fail
    refine (Sp.new b1 0 (by decide) (by decide)).mono ?_
    rintro e w2 ⟨rfl, s, -⟩
    have S2 := Lib.hid s
    clear s b1
    generalize w1.heap.size = g at *
    go_wp2_with fail
    refine (S2.out.ask a (by omega) (by decide)).mono ?_
    rintro e w3 ⟨he, s, -⟩
    have he : e = .returned (.int .i64 1) := he
    subst he
    have S3 : Hid (Sp w w3 g 1 0 (askA (List.replicate 64 0) 0 a) false 0 0) := Lib.hid s
    have HT := Lib.hid (show tm (askA (List.replicate 64 0) 0 a) 1 = a from tm_new rfl 0 a)
    have HL := Lib.hid s.k.len
    clear s S2
    generalize askA (List.replicate 64 0) 0 a = A at *
    go_wp2_with fail
    refine (S3.out.ask (a + l) (by omega) (by decide)).mono ?_
    rintro e w4 ⟨he, s, -⟩
    have he : e = .returned (.int .i64 2) := he
    subst he
    have S4 : Hid (Sp w w4 g 2 0 (askA A 1 (a + l)) false 0 0) := Lib.hid s
    have HT2 := Lib.hid (show tm (askA A 1 (a + l)) 2 = a + l from tm_new HL.out 1 (a + l))
    have HT1 := Lib.hid (show tm (askA A 1 (a + l)) 1 = a by rw [ask_at HL.out, if_neg (by decide)]; exact HT.out)
    clear s S3 HT HL
    generalize askA A 1 (a + l) = A at *
    go_wp2_with fail
    refine (S4.out.get 1 c (by decide)).mono ?_
    rw [HT1.out]
    rintro e w5 ⟨rfl, s, -⟩
    have S5 := Lib.hid s
    clear s S4
    rcases (by omega : (l + t < 12 ∧ t < 12) ∨ (¬ l + t < 12 ∧ t < 12) ∨ (¬ l + t < 12 ∧ ¬ t < 12)) with ⟨k, kt⟩ | ⟨k, kt⟩ | ⟨k, kt⟩
    · go_wp2_with fail
      refine (S5.out.good (a + l + t) c (by omega) (good_yes (by omega) (by omega) (by omega))).mono ?_
      rintro e w6 ⟨rfl, rfl⟩
      go_wp2_with fail
      refine (S5.out.get 2 c (by decide)).mono ?_
      rw [HT2.out]
      rintro e w7 ⟨rfl, s, -⟩
      have S7 := Lib.hid s
      clear s S5
      go_wp2_with fail
      refine (S7.out.good (a + l + t) c (by omega) (good_yes (by omega) (by omega) (by omega))).mono ?_
      rintro e w8 ⟨rfl, rfl⟩
      go_wp2_with fail
      refine (S7.out.got 1 c (by decide)).mono ?_
      rintro e w8 ⟨rfl, rfl⟩
      go_wp2_with fail
      go_ret
      exact ⟨by first | rfl | (simp [k]; done) | (simp [k]; omega), S7.out.bel⟩
    · go_wp2_with fail
      refine (S5.out.good (a + l + t) c (by omega) (good_no (by simp; omega))).mono ?_
      rintro e w6 ⟨rfl, rfl⟩
      go_wp2_with fail
      refine (S5.out.get 2 c (by decide)).mono ?_
      rw [HT2.out]
      rintro e w7 ⟨rfl, s, -⟩
      have S7 := Lib.hid s
      clear s S5
      go_wp2_with fail
      refine (S7.out.good (a + l + t) c (by omega) (good_yes (by omega) (by omega) (by omega))).mono ?_
      rintro e w8 ⟨rfl, rfl⟩
      go_wp2_with fail
      refine (S7.out.got 1 c (by decide)).mono ?_
      rintro e w8 ⟨rfl, rfl⟩
      go_wp2_with fail
      go_ret
      exact ⟨by first | rfl | (simp [k]; done) | (simp [k]; omega), S7.out.bel⟩
    · go_wp2_with fail
      refine (S5.out.good (a + l + t) c (by omega) (good_no (by simp; omega))).mono ?_
      rintro e w6 ⟨rfl, rfl⟩
      go_wp2_with fail
      refine (S5.out.get 2 c (by decide)).mono ?_
      rw [HT2.out]
      rintro e w7 ⟨rfl, s, -⟩
      have S7 := Lib.hid s
      clear s S5
      go_wp2_with fail
      refine (S7.out.good (a + l + t) c (by omega) (good_no (by simp; omega))).mono ?_
      rintro e w8 ⟨rfl, rfl⟩
      go_wp2_with fail
      refine (S7.out.got 1 c (by decide)).mono ?_
      rintro e w8 ⟨rfl, rfl⟩
      go_wp2_with fail
      go_ret
      exact ⟨by first | rfl | (simp [k]; done) | (simp [k]; omega), S7.out.bel⟩
end Go.Proofs.Ytfppngeldlpjiaa
