/- The walks of TallyNone, TallyReset, TallyTwo. -/
import Derived.Test.YtkfgnnnlhpaglaaLaw5A
namespace Go.Proofs.Ytkfgnnnlhpaglaa
open Go.RowKit

theorem TallyNone_w (w : World) :
    Calls Try.prog 5 #[] w fun e w' => e = .returned (.bool true) ∧ Below w.heap.size w w' := by
  go_enter Try.func5, Try.ntmps5
  go_wp2_with fail
  refine (begun_c w).mono ?_
  rintro e w1 ⟨rfl, hb⟩
  go_wp2_with fail
  refine (tAdd_nil w1 1).mono ?_
  rintro e w' ⟨rfl, rfl⟩
  go_wp2_with fail
  refine (tGet_nil w1 1).mono ?_
  rintro e w' ⟨rfl, rfl⟩
  go_wp2_with fail
  refine (tSum_nil w1).mono ?_
  rintro e w' ⟨rfl, rfl⟩
  go_wp2_with fail
  refine (tReset_nil w1).mono ?_
  rintro e w' ⟨rfl, rfl⟩
  go_wp2_with fail
  go_ret
  exact ⟨rfl, hb⟩

set_option maxHeartbeats 2000000 in
set_option maxRecDepth 100000 in
theorem TallyTwo_w (w : World) (a0 b0 k0 : Int) :
    Calls Try.prog 4 #[.int .i64 a0, .int .i64 b0, .int .i64 k0] w fun e w' => e = .returned (.bool true) ∧ Below w.heap.size w w' := by
  by_cases hout : a0 < 0 ∨ 50 < a0 ∨ b0 < 0 ∨ 50 < b0 ∨ k0 < 0 ∨ 15 < k0
  · have hc : a0 < 0 ∨ ¬ a0 < 0 ∧ 50 < a0 ∨ ¬ a0 < 0 ∧ ¬ 50 < a0 ∧ b0 < 0 ∨ ¬ a0 < 0 ∧ ¬ 50 < a0 ∧ ¬ b0 < 0 ∧ 50 < b0 ∨ ¬ a0 < 0 ∧ ¬ 50 < a0 ∧ ¬ b0 < 0 ∧ ¬ 50 < b0 ∧ k0 < 0 ∨ ¬ a0 < 0 ∧ ¬ 50 < a0 ∧ ¬ b0 < 0 ∧ ¬ 50 < b0 ∧ ¬ k0 < 0 ∧ 15 < k0 := by omega
    clear hout
    rcases hc with q1 | ⟨q1, q2⟩ | ⟨q1, q2, q3⟩ | ⟨q1, q2, q3, q4⟩ | ⟨q1, q2, q3, q4, q5⟩ | ⟨q1, q2, q3, q4, q5, q6⟩
    all_goals
      go_enter Try.func4, Try.ntmps4
      go_wp2_with fail
      refine (begun_c w).mono ?_
      rintro e w1 ⟨rfl, hb1⟩
      go_wp2_with fail
      go_ret
      exact ⟨rfl, hb1⟩
  · obtain ⟨a, rfl⟩ : ∃ n : Nat, a0 = n := ⟨a0.toNat, by omega⟩
    obtain ⟨b, rfl⟩ : ∃ n : Nat, b0 = n := ⟨b0.toNat, by omega⟩
    obtain ⟨k, rfl⟩ : ∃ n : Nat, k0 = n := ⟨k0.toNat, by omega⟩
    have ha : a ≤ 50 := by omega
    have hb : b ≤ 50 := by omega
    have hk : k < 16 := by omega
    clear hout
    obtain ⟨l, hl⟩ : ∃ l : Nat, (15 : Int) - k = l := ⟨15 - k, by omega⟩
    have hl16 : l < 16 := by omega
    have zk := PTally.one_zero k hk
    have zl := PTally.one_zero l hl16
    have okk := fun j => PTally.one_ok k j hk
    have okl := fun j => PTally.one_ok l j hl16
    have adk := fun j => PTally.one_add k j hk
    have adl := fun j => PTally.one_add l j hl16
    have gk := fun j => PTally.one_get k j hk
    have gl := fun j => PTally.one_get l j hl16
    have sk := PTally.one_sum k hk
    have sl := PTally.one_sum l hl16
    have ZK := Lib.hid zk; have ZL := Lib.hid zl; have OK := Lib.hid okk; have OL := Lib.hid okl; have AK := Lib.hid adk; have AL := Lib.hid adl
    have GK := Lib.hid gk; have GL := Lib.hid gl; have SK := Lib.hid sk; have SL := Lib.hid sl
    clear zk zl okk okl adk adl gk gl sk sl
    go_enter Try.func4, Try.ntmps4
    go_wp2_with fail
    refine (begun_c w).mono ?_
    rintro e w1 ⟨rfl, hb1⟩
    have hsz1 := hb1.size
    have T0 := (Ti.new w1 31).past ((Below.refl _ _).alloc (Nat.le_refl _) (.cells #[.int .i64 0, .int .i64 0, .int .i64 0, .int .i64 0, .int .i64 0, .int .i64 0, .int .i64 0, .int .i64 0, .int .i64 0, .int .i64 0, .int .i64 0, .int .i64 0, .int .i64 0, .int .i64 0, .int .i64 0, .int .i64 0] 31))
    have U0 : Tl _ _ _ := Ti.new (w1.alloc (.cells #[.int .i64 0, .int .i64 0, .int .i64 0, .int .i64 0, .int .i64 0, .int .i64 0, .int .i64 0, .int .i64 0, .int .i64 0, .int .i64 0, .int .i64 0, .int .i64 0, .int .i64 0, .int .i64 0, .int .i64 0, .int .i64 0] 31)) _
    have hs : (w1.alloc (.cells #[.int .i64 0, .int .i64 0, .int .i64 0, .int .i64 0, .int .i64 0, .int .i64 0, .int .i64 0, .int .i64 0, .int .i64 0, .int .i64 0, .int .i64 0, .int .i64 0, .int .i64 0, .int .i64 0, .int .i64 0, .int .i64 0] 31)).heap.size = w1.heap.size + 1 := by simp
    rw [hs] at U0
    have hb2 := (hb1.alloc hsz1 (.cells #[.int .i64 0, .int .i64 0, .int .i64 0, .int .i64 0, .int .i64 0, .int .i64 0, .int .i64 0, .int .i64 0, .int .i64 0, .int .i64 0, .int .i64 0, .int .i64 0, .int .i64 0, .int .i64 0, .int .i64 0, .int .i64 0] 31)).alloc (by rw [hs]; omega) (.cells #[.int .i64 0, .int .i64 0, .int .i64 0, .int .i64 0, .int .i64 0, .int .i64 0, .int .i64 0, .int .i64 0, .int .i64 0, .int .i64 0, .int .i64 0, .int .i64 0, .int .i64 0, .int .i64 0, .int .i64 0, .int .i64 0] 31)
    clear hs
    go_wp2_with fail
    go_loopw [10] (fun s10 wr => ∃ i : Nat, i ≤ 50 ∧ s10 = .int .i64 i ∧ (i ≤ a ∨ i ≤ b) ∧ Tl wr w1.heap.size (PTally.one k (min i a)) ∧ Tl wr (w1.heap.size + 1) (PTally.one l (min i b)) ∧ Below w.heap.size w wr) (fun s10 _ => 50 - (intOf s10).toNat)
    case atStart =>
      refine ⟨0, by omega, rfl, by omega, ?_, ?_, hb2⟩
      · rw [Nat.zero_min, ZK.out]; exact T0
      · rw [Nat.zero_min, ZL.out]; exact U0
    case round =>
      clear T0 U0 hb2
      obtain ⟨i, hi, rfl, hiab, T, U, hbr⟩ := hrel
      have hszr := hbr.size
      by_cases q1 : i < a
      · have m1 : min i a = i := by omega
        have m2 : min (i + 1) a = i + 1 := by omega
        rw [m1] at T
        by_cases q2 : i < b
        · have m3 : min i b = i := by omega
          have m4 : min (i + 1) b = i + 1 := by omega
          rw [m3] at U
          go_wp2_with fail
          refine (tAdd_c _ _ _ T _ (OK.out i) (by omega) k).mono ?_
          rw [AK.out i]
          rintro e w2 ⟨rfl, T2, g2⟩
          have U2 := U.far g2 (by omega)
          have hb2 := hbr.grown g2 hszr (fun k hk => by cases hk; exact hsz1)
          have hsz2 := hb2.size
          go_wp2_with fail
          refine (tAdd_c _ _ _ U2 _ (OL.out i) (by omega) l).mono ?_
          rw [AL.out i]
          rintro e w3 ⟨rfl, U3, g3⟩
          have T3 := T2.far g3 (by omega)
          have hb3 := hb2.grown g3 hsz2 (fun k hk => by cases hk; omega)
          go_wp2_with fail
          go_roundw
          case rel => exact ⟨i + 1, by omega, by go_num, by omega, by rw [m2]; exact T3, by rw [m4]; exact U3, hb3⟩
          case measure => simp [intOf]; omega
        · have m3 : min i b = b := by omega
          have m4 : min (i + 1) b = b := by omega
          rw [m3] at U
          go_wp2_with fail
          refine (tAdd_c _ _ _ T _ (OK.out i) (by omega) k).mono ?_
          rw [AK.out i]
          rintro e w2 ⟨rfl, T2, g2⟩
          have U2 := U.far g2 (by omega)
          have hb2 := hbr.grown g2 hszr (fun k hk => by cases hk; exact hsz1)
          go_wp2_with fail
          go_roundw
          case rel => exact ⟨i + 1, by omega, by go_num, by omega, by rw [m2]; exact T2, by rw [m4]; exact U2, hb2⟩
          case measure => simp [intOf]; omega
      · have m1 : min i a = a := by omega
        have m2 : min (i + 1) a = a := by omega
        rw [m1] at T
        by_cases q2 : i < b
        · have m3 : min i b = i := by omega
          have m4 : min (i + 1) b = i + 1 := by omega
          rw [m3] at U
          go_wp2_with fail
          refine (tAdd_c _ _ _ U _ (OL.out i) (by omega) l).mono ?_
          rw [AL.out i]
          rintro e w3 ⟨rfl, U3, g3⟩
          have T3 := T.far g3 (by omega)
          have hb3 := hbr.grown g3 hszr (fun k hk => by cases hk; omega)
          go_wp2_with fail
          go_roundw
          case rel => exact ⟨i + 1, by omega, by go_num, by omega, by rw [m2]; exact T3, by rw [m4]; exact U3, hb3⟩
          case measure => simp [intOf]; omega
        · have m3 : min i b = b := by omega
          rw [m3] at U
          go_wp2_with fail
          refine (tGet_c _ _ _ T k).mono ?_
          rw [GK.out]
          rintro e w' ⟨rfl, rfl⟩
          go_wp2_with fail
          refine (tGet_c _ _ _ U l).mono ?_
          rw [GL.out]
          rintro e w' ⟨rfl, rfl⟩
          go_wp2_with fail
          refine (tSum_c _ _ _ T _ (OK.out a) (by omega)).mono ?_
          rw [SK.out]
          rintro e w' ⟨rfl, rfl⟩
          go_wp2_with fail
          refine (tSum_c _ _ _ U _ (OL.out b) (by omega)).mono ?_
          rw [SL.out]
          rintro e w' ⟨rfl, rfl⟩
          go_wp2_with fail
          refine (tReset_c _ _ _ T _ (OK.out a) (by omega)).mono ?_
          rw [SK.out]
          rintro e w2 ⟨rfl, T2, g2⟩
          have U2 := U.far g2 (by omega)
          have hb2 := hbr.grown g2 hszr (fun k hk => by cases hk; exact hsz1)
          go_wp2_with fail
          refine (tSum_c _ _ _ U2 _ (OL.out b) (by omega)).mono ?_
          rw [SL.out]
          rintro e w' ⟨rfl, rfl⟩
          go_wp2_with fail
          go_ret
          exact ⟨rfl, hb2⟩
end Go.Proofs.Ytkfgnnnlhpaglaa
