/- The walks of ProofMany, ProofStarts. -/
import Derived.Test.YtfppngeldlpjiaaPrfK
import Derived.WalkSmall
namespace Go.Proofs.Ytfppngeldlpjiaa
open Go.RowKit PProof

/-- Of the last questions each was asked at its own number. -/
def Own (last : Int) (A : List Int) : Prop := ∀ j : Int, 0 < j → j ≤ last → last - j < 64 → tm A j = j
theorem Own.ask {last : Int} {A : List Int} (h : Own last A) (hl : A.length = 64) : Own (last + 1) (askA A last (last + 1)) := by
  intro j h1 h2 h3
  rw [ask_at hl]
  by_cases e : j = last + 1
  · subst e; rw [if_pos rfl]
  · rw [if_neg (pl_ne (by omega) (by omega) (by omega))]
    exact h j h1 (by omega) (by omega)

set_option maxHeartbeats 1000000 in
set_option maxRecDepth 100000 in
theorem ProofMany_w (w : World) (n x : Int) : Calls Try.prog 4 #[.int .i64 n, .int .i64 x] w fun e w' => e = .returned (.bool true) ∧ Below w.heap.size w w' := by
  rcases (by omega : (n < 1) ∨ (1 ≤ n ∧ 150 < n) ∨ (1 ≤ n ∧ n ≤ 150 ∧ x < 1) ∨ (1 ≤ n ∧ n ≤ 150 ∧ 1 ≤ x ∧ 160 < x) ∨ (1 ≤ n ∧ n ≤ 150 ∧ 1 ≤ x ∧ x ≤ 160)) with k0 | ⟨k0, k1⟩ | ⟨k0, k1, k2⟩ | ⟨k0, k1, k2, k3⟩ | ⟨k0, k1, k2, k3⟩
  · go_enter Try.func4, Try.ntmps4
    go_wp2_with fail
    refine (begunP_c w).mono ?_
    rintro e w1 ⟨rfl, b1⟩
    go_wp2_with fail
    go_ret
    exact ⟨rfl, b1⟩
  · go_enter Try.func4, Try.ntmps4
    go_wp2_with fail
    refine (begunP_c w).mono ?_
    rintro e w1 ⟨rfl, b1⟩
    go_wp2_with fail
    go_ret
    exact ⟨rfl, b1⟩
  · go_enter Try.func4, Try.ntmps4
    go_wp2_with fail
    refine (begunP_c w).mono ?_
    rintro e w1 ⟨rfl, b1⟩
    go_wp2_with fail
    go_ret
    exact ⟨rfl, b1⟩
  · go_enter Try.func4, Try.ntmps4
    go_wp2_with fail
    refine (begunP_c w).mono ?_
    rintro e w1 ⟨rfl, b1⟩
    go_wp2_with fail
    go_ret
    exact ⟨rfl, b1⟩
  · go_enter Try.func4, Try.ntmps4
    go_wp2_with fail
    refine (begunP_c w).mono ?_
    rintro e w1 ⟨rfl, b1⟩
    go_wp2_with fail
    refine (Sp.new b1 0 (by decide) (by decide)).mono ?_
    rintro e w2 ⟨rfl, s, -⟩
    have S2 : Hid (Sp w w2 w1.heap.size ((0 : Nat) : Int) 0 (List.replicate 64 0) false 0 0) := Lib.hid s
    have W2 := Lib.hid (show Own ((0 : Nat) : Int) (List.replicate 64 0) from fun j h1 h2 _ => by omega)
    clear s b1
    generalize w1.heap.size = g at *
    generalize List.replicate 64 (0 : Int) = A0 at *
    go_wp2_with fail
    go_loopw [7] (fun s7 wr => ∃ (i : Nat) (A : List Int), (i : Int) ≤ n ∧ s7 = .int .i64 ((i : Int) + 1) ∧ Hid (Sp w wr g i 0 A false 0 0) ∧ Hid (Own i A)) (fun s7 _ => (n + 1 - intOf s7).toNat)
    case atStart => exact ⟨0, A0, by omega, rfl, S2, W2⟩
    case round =>
      clear S2 W2
      obtain ⟨i, A, hi, rfl, HS, HW⟩ := hrel
      by_cases hlt : (i : Int) < n
      · have HT := Lib.hid (HW.out.ask HS.out.k.len)
        go_wp2_with fail
        refine (HS.out.ask ((i : Int) + 1) (by omega) (by omega)).mono ?_
        rintro e w4 ⟨rfl, s, -⟩
        have S4 := Lib.hid s
        clear s HS HW
        go_wp2_with fail
        go_roundw
        case rel => exact ⟨i + 1, _, by omega, by go_num, S4, HT⟩
        case measure => simp [intOf]; omega
      · obtain rfl : (i : Int) = n := by omega
        clear hlt hi
        rcases (by omega : (i : Int) < x ∨ (x ≤ i ∧ 64 ≤ i - x) ∨ (x ≤ i ∧ i - x < 64)) with q | ⟨q, q2⟩ | ⟨q, q2⟩
        · go_wp2_with fail
          refine (HS.out.got x 0 (decide_eq_false (by omega))).mono ?_
          rintro e w5 ⟨rfl, rfl⟩
          go_wp2_with fail
          refine (HS.out.good x 0 (by omega) (good_no (by simp))).mono ?_
          rintro e w5 ⟨rfl, rfl⟩
          go_wp2_with fail
          go_ret
          exact ⟨by first | rfl | (simp; omega), HS.out.bel⟩
        · go_wp2_with fail
          refine (HS.out.got x 0 (decide_eq_false (by omega))).mono ?_
          rintro e w5 ⟨rfl, rfl⟩
          go_wp2_with fail
          refine (HS.out.good x 0 (by omega) (good_no (by simp))).mono ?_
          rintro e w5 ⟨rfl, rfl⟩
          go_wp2_with fail
          go_ret
          exact ⟨by first | rfl | (simp; omega), HS.out.bel⟩
        · have HT := Lib.hid (HW.out x (by omega) (by omega) (by omega))
          go_wp2_with fail
          refine (HS.out.get x 0 (decide_eq_true (by omega))).mono ?_
          rw [HT.out]
          rintro e w5 ⟨rfl, s, -⟩
          have S5 := Lib.hid s
          clear s HS HW
          go_wp2_with fail
          refine (S5.out.good x 0 (by omega) (good_yes (by omega) (by omega) (by omega))).mono ?_
          rintro e w6 ⟨rfl, rfl⟩
          go_wp2_with fail
          go_ret
          exact ⟨rfl, S5.out.bel⟩
end Go.Proofs.Ytfppngeldlpjiaa
