/- The walk of WheelEnds. -/
import Derived.Test.YtnpdhddnlcpaiaaLaw7A
namespace Go.Proofs.Ytnpdhddnlcpaiaa
open Go.RowKit

theorem told_zero (i : Int) : PWheel.told PWheel.zero i = (0, false) := by
  unfold PWheel.told
  split
  · exact PWheel.tm_zero _
  · rfl
theorem told_set {i t : Int} (hi : PWheel.isI i = true) (ht : PWheel.isT t = true) : PWheel.told (PWheel.setT PWheel.zero i t) i = (t, true) := by
  rw [PWheel.setT_in hi ht]
  unfold PWheel.told
  rw [if_pos hi, PWheel.tm_set _ _ _ _ (by have := of_decide_eq_true hi; simp [PWheel.zero]; omega), if_pos rfl]
theorem back_none {T : List (Int × Bool)} {now b : Int} (h : b < now) : PWheel.goD T now b = [] ∧ PWheel.goN now b = now := by
  simp [PWheel.goD, PWheel.goN, PWheel.goes, h]

set_option maxHeartbeats 3200000 in
set_option maxRecDepth 100000 in
theorem WheelEnds_w (w : World) (i t now back : Int) :
    Calls Try.prog 6 #[.int .i64 i, .int .i64 t, .int .i64 now, .int .i64 back] w fun e w' => e = .returned (.bool true) ∧ Below w.heap.size w w' := by
  rcases (by omega : now < 0 ∨ ¬ now < 0 ∧ 1099511627776 < now ∨ ¬ now < 0 ∧ ¬ 1099511627776 < now) with n1 | ⟨n1, n2⟩ | ⟨n1, n2⟩
  · go_enter Try.func6, Try.ntmps6
    go_wp2_with fail
    refine (begun_c w).mono ?_
    rintro e w1 ⟨rfl, b1⟩
    go_wp2_with fail
    go_ret
    exact ⟨rfl, b1⟩
  · go_enter Try.func6, Try.ntmps6
    go_wp2_with fail
    refine (begun_c w).mono ?_
    rintro e w1 ⟨rfl, b1⟩
    go_wp2_with fail
    go_ret
    exact ⟨rfl, b1⟩
  have HNT := Lib.hid (show PWheel.newT now = now by simp [PWheel.newT, PWheel.isT]; omega)
  rcases (by omega : i < 0 ∨ ¬ i < 0 ∧ 64 ≤ i ∨ ¬ i < 0 ∧ ¬ 64 ≤ i ∧ t < -1099511627776 ∨ ¬ i < 0 ∧ ¬ 64 ≤ i ∧ ¬ t < -1099511627776 ∧ 1099511627776 < t ∨ ¬ i < 0 ∧ ¬ 64 ≤ i ∧ ¬ t < -1099511627776 ∧ ¬ 1099511627776 < t) with k1 | ⟨k1, k2⟩ | ⟨k1, k2, k3⟩ | ⟨k1, k2, k3, k4⟩ | ⟨k1, k2, k3, k4⟩
  · have z1 : ¬ 0 ≤ i := by omega
    have gi : PWheel.isI i = false := by simp [PWheel.isI]; omega
    have HE := Lib.hid (And.intro (PWheel.setE_lo (t := t) gi) (show PWheel.told (PWheel.setT PWheel.zero i t) i = (0, false) by rw [PWheel.setT_lo gi]; exact told_zero i))
    clear gi
    clear k1
    by_cases hb : back < now
    · have HB := Lib.hid (back_none (T := PWheel.setT PWheel.zero i t) hb)
      go_enter Try.func6, Try.ntmps6
      go_wp2_with fail
      refine (begun_c w).mono ?_
      rintro e w1 ⟨rfl, b1⟩
      go_wp2_with fail
      refine (new_c w1 now).mono ?_
      rw [HNT.out]
      rintro e w2 ⟨rfl, W2, b2⟩
      go_wp2_with fail
      refine (set_c w2 _ _ _ W2 i t).mono ?_
      rw [HE.out.1]
      rintro e w3 ⟨rfl, W3, t3⟩
      go_wp2_with fail
      refine (go_c w3 _ _ back _ W3).mono ?_
      rintro e w4 ⟨A, n, c, M, rfl, hn, p4, s4, o4, W4, t4⟩
      rw [HB.out.1] at p4
      obtain rfl := List.perm_nil.1 p4
      obtain rfl : n = 0 := hn
      rw [HB.out.2] at W4
      have W4' := Lib.hid W4
      have T4 := Lib.hid (t3.trans t4)
      have B := Lib.hid (And.intro b1 b2)
      clear W2 W3 W4 t3 t4 p4 s4 o4 b1 b2
      go_wp2_with fail
      refine (now_c w4 _ _ _ W4'.out).mono ?_
      rintro e w' ⟨rfl, rfl⟩
      go_wp2_with fail
      go_ret
      exact ⟨rfl, B.out.1.trans ((B.out.2.trans (T4.out.below (by simp) B.out.2.size)).mono B.out.1.size)⟩
    · go_enter Try.func6, Try.ntmps6
      go_wp2_with fail
      refine (begun_c w).mono ?_
      rintro e w1 ⟨rfl, b1⟩
      go_wp2_with fail
      refine (new_c w1 now).mono ?_
      rw [HNT.out]
      rintro e w2 ⟨rfl, W2, b2⟩
      go_wp2_with fail
      refine (set_c w2 _ _ _ W2 i t).mono ?_
      rw [HE.out.1]
      rintro e w3 ⟨rfl, W3, t3⟩
      go_wp2_with fail
      refine (at_c w3 _ _ _ W3 i).mono ?_
      rw [HE.out.2]
      rintro e w4 ⟨rfl, n, rfl⟩
      have T4 := Lib.hid (t3.drawn n)
      have B := Lib.hid (And.intro b1 b2)
      clear W2 W3 t3 b1 b2
      go_wp2_with fail
      go_ret
      exact ⟨rfl, B.out.1.trans ((B.out.2.trans (T4.out.below (by simp) B.out.2.size)).mono B.out.1.size)⟩
  · have z1 : 0 ≤ i := by omega
    have z2 : ¬ i < 64 := by omega
    have gi : PWheel.isI i = false := by simp [PWheel.isI]; omega
    have HE := Lib.hid (And.intro (PWheel.setE_lo (t := t) gi) (show PWheel.told (PWheel.setT PWheel.zero i t) i = (0, false) by rw [PWheel.setT_lo gi]; exact told_zero i))
    clear gi
    clear k1 k2
    by_cases hb : back < now
    · have HB := Lib.hid (back_none (T := PWheel.setT PWheel.zero i t) hb)
      go_enter Try.func6, Try.ntmps6
      go_wp2_with fail
      refine (begun_c w).mono ?_
      rintro e w1 ⟨rfl, b1⟩
      go_wp2_with fail
      refine (new_c w1 now).mono ?_
      rw [HNT.out]
      rintro e w2 ⟨rfl, W2, b2⟩
      go_wp2_with fail
      refine (set_c w2 _ _ _ W2 i t).mono ?_
      rw [HE.out.1]
      rintro e w3 ⟨rfl, W3, t3⟩
      go_wp2_with fail
      refine (go_c w3 _ _ back _ W3).mono ?_
      rintro e w4 ⟨A, n, c, M, rfl, hn, p4, s4, o4, W4, t4⟩
      rw [HB.out.1] at p4
      obtain rfl := List.perm_nil.1 p4
      obtain rfl : n = 0 := hn
      rw [HB.out.2] at W4
      have W4' := Lib.hid W4
      have T4 := Lib.hid (t3.trans t4)
      have B := Lib.hid (And.intro b1 b2)
      clear W2 W3 W4 t3 t4 p4 s4 o4 b1 b2
      go_wp2_with fail
      refine (now_c w4 _ _ _ W4'.out).mono ?_
      rintro e w' ⟨rfl, rfl⟩
      go_wp2_with fail
      go_ret
      exact ⟨rfl, B.out.1.trans ((B.out.2.trans (T4.out.below (by simp) B.out.2.size)).mono B.out.1.size)⟩
    · go_enter Try.func6, Try.ntmps6
      go_wp2_with fail
      refine (begun_c w).mono ?_
      rintro e w1 ⟨rfl, b1⟩
      go_wp2_with fail
      refine (new_c w1 now).mono ?_
      rw [HNT.out]
      rintro e w2 ⟨rfl, W2, b2⟩
      go_wp2_with fail
      refine (set_c w2 _ _ _ W2 i t).mono ?_
      rw [HE.out.1]
      rintro e w3 ⟨rfl, W3, t3⟩
      go_wp2_with fail
      refine (at_c w3 _ _ _ W3 i).mono ?_
      rw [HE.out.2]
      rintro e w4 ⟨rfl, n, rfl⟩
      have T4 := Lib.hid (t3.drawn n)
      have B := Lib.hid (And.intro b1 b2)
      clear W2 W3 t3 b1 b2
      go_wp2_with fail
      go_ret
      exact ⟨rfl, B.out.1.trans ((B.out.2.trans (T4.out.below (by simp) B.out.2.size)).mono B.out.1.size)⟩
  · have z1 : 0 ≤ i := by omega
    have z2 : i < 64 := by omega
    have z3 : ¬ -1099511627776 ≤ t := by omega
    have gt : PWheel.isT t = false := by simp [PWheel.isT]; omega
    have HE := Lib.hid (And.intro (PWheel.setE_no (i := i) gt) (show PWheel.told (PWheel.setT PWheel.zero i t) i = (0, false) by rw [PWheel.setT_no gt]; exact told_zero i))
    clear gt
    clear k1 k2 k3
    by_cases hb : back < now
    · have HB := Lib.hid (back_none (T := PWheel.setT PWheel.zero i t) hb)
      go_enter Try.func6, Try.ntmps6
      go_wp2_with fail
      refine (begun_c w).mono ?_
      rintro e w1 ⟨rfl, b1⟩
      go_wp2_with fail
      refine (new_c w1 now).mono ?_
      rw [HNT.out]
      rintro e w2 ⟨rfl, W2, b2⟩
      go_wp2_with fail
      refine (set_c w2 _ _ _ W2 i t).mono ?_
      rw [HE.out.1]
      rintro e w3 ⟨rfl, W3, t3⟩
      go_wp2_with fail
      refine (go_c w3 _ _ back _ W3).mono ?_
      rintro e w4 ⟨A, n, c, M, rfl, hn, p4, s4, o4, W4, t4⟩
      rw [HB.out.1] at p4
      obtain rfl := List.perm_nil.1 p4
      obtain rfl : n = 0 := hn
      rw [HB.out.2] at W4
      have W4' := Lib.hid W4
      have T4 := Lib.hid (t3.trans t4)
      have B := Lib.hid (And.intro b1 b2)
      clear W2 W3 W4 t3 t4 p4 s4 o4 b1 b2
      go_wp2_with fail
      refine (now_c w4 _ _ _ W4'.out).mono ?_
      rintro e w' ⟨rfl, rfl⟩
      go_wp2_with fail
      go_ret
      exact ⟨rfl, B.out.1.trans ((B.out.2.trans (T4.out.below (by simp) B.out.2.size)).mono B.out.1.size)⟩
    · go_enter Try.func6, Try.ntmps6
      go_wp2_with fail
      refine (begun_c w).mono ?_
      rintro e w1 ⟨rfl, b1⟩
      go_wp2_with fail
      refine (new_c w1 now).mono ?_
      rw [HNT.out]
      rintro e w2 ⟨rfl, W2, b2⟩
      go_wp2_with fail
      refine (set_c w2 _ _ _ W2 i t).mono ?_
      rw [HE.out.1]
      rintro e w3 ⟨rfl, W3, t3⟩
      go_wp2_with fail
      refine (at_c w3 _ _ _ W3 i).mono ?_
      rw [HE.out.2]
      rintro e w4 ⟨rfl, n, rfl⟩
      have T4 := Lib.hid (t3.drawn n)
      have B := Lib.hid (And.intro b1 b2)
      clear W2 W3 t3 b1 b2
      go_wp2_with fail
      go_ret
      exact ⟨rfl, B.out.1.trans ((B.out.2.trans (T4.out.below (by simp) B.out.2.size)).mono B.out.1.size)⟩
  · have z1 : 0 ≤ i := by omega
    have z2 : i < 64 := by omega
    have z3 : -1099511627776 ≤ t := by omega
    have z4 : ¬ t ≤ 1099511627776 := by omega
    have gt : PWheel.isT t = false := by simp [PWheel.isT]; omega
    have HE := Lib.hid (And.intro (PWheel.setE_no (i := i) gt) (show PWheel.told (PWheel.setT PWheel.zero i t) i = (0, false) by rw [PWheel.setT_no gt]; exact told_zero i))
    clear gt
    clear k1 k2 k3 k4
    by_cases hb : back < now
    · have HB := Lib.hid (back_none (T := PWheel.setT PWheel.zero i t) hb)
      go_enter Try.func6, Try.ntmps6
      go_wp2_with fail
      refine (begun_c w).mono ?_
      rintro e w1 ⟨rfl, b1⟩
      go_wp2_with fail
      refine (new_c w1 now).mono ?_
      rw [HNT.out]
      rintro e w2 ⟨rfl, W2, b2⟩
      go_wp2_with fail
      refine (set_c w2 _ _ _ W2 i t).mono ?_
      rw [HE.out.1]
      rintro e w3 ⟨rfl, W3, t3⟩
      go_wp2_with fail
      refine (go_c w3 _ _ back _ W3).mono ?_
      rintro e w4 ⟨A, n, c, M, rfl, hn, p4, s4, o4, W4, t4⟩
      rw [HB.out.1] at p4
      obtain rfl := List.perm_nil.1 p4
      obtain rfl : n = 0 := hn
      rw [HB.out.2] at W4
      have W4' := Lib.hid W4
      have T4 := Lib.hid (t3.trans t4)
      have B := Lib.hid (And.intro b1 b2)
      clear W2 W3 W4 t3 t4 p4 s4 o4 b1 b2
      go_wp2_with fail
      refine (now_c w4 _ _ _ W4'.out).mono ?_
      rintro e w' ⟨rfl, rfl⟩
      go_wp2_with fail
      go_ret
      exact ⟨rfl, B.out.1.trans ((B.out.2.trans (T4.out.below (by simp) B.out.2.size)).mono B.out.1.size)⟩
    · go_enter Try.func6, Try.ntmps6
      go_wp2_with fail
      refine (begun_c w).mono ?_
      rintro e w1 ⟨rfl, b1⟩
      go_wp2_with fail
      refine (new_c w1 now).mono ?_
      rw [HNT.out]
      rintro e w2 ⟨rfl, W2, b2⟩
      go_wp2_with fail
      refine (set_c w2 _ _ _ W2 i t).mono ?_
      rw [HE.out.1]
      rintro e w3 ⟨rfl, W3, t3⟩
      go_wp2_with fail
      refine (at_c w3 _ _ _ W3 i).mono ?_
      rw [HE.out.2]
      rintro e w4 ⟨rfl, n, rfl⟩
      have T4 := Lib.hid (t3.drawn n)
      have B := Lib.hid (And.intro b1 b2)
      clear W2 W3 t3 b1 b2
      go_wp2_with fail
      go_ret
      exact ⟨by show Ending.returned (Value.bool (!decide (t ≤ 1099511627776))) = _; simp [z4], B.out.1.trans ((B.out.2.trans (T4.out.below (by simp) B.out.2.size)).mono B.out.1.size)⟩
  · have z1 : 0 ≤ i := by omega
    have z2 : i < 64 := by omega
    have z3 : -1099511627776 ≤ t := by omega
    have z4 : t ≤ 1099511627776 := by omega
    have gi : PWheel.isI i = true := by simp [PWheel.isI]; omega
    have gt : PWheel.isT t = true := by simp [PWheel.isT]; omega
    have HE := Lib.hid (And.intro (PWheel.setE_in gi gt) (told_set gi gt))
    clear gi gt
    clear k1 k2 k3 k4
    by_cases hb : back < now
    · have HB := Lib.hid (back_none (T := PWheel.setT PWheel.zero i t) hb)
      go_enter Try.func6, Try.ntmps6
      go_wp2_with fail
      refine (begun_c w).mono ?_
      rintro e w1 ⟨rfl, b1⟩
      go_wp2_with fail
      refine (new_c w1 now).mono ?_
      rw [HNT.out]
      rintro e w2 ⟨rfl, W2, b2⟩
      go_wp2_with fail
      refine (set_c w2 _ _ _ W2 i t).mono ?_
      rw [HE.out.1]
      rintro e w3 ⟨rfl, W3, t3⟩
      go_wp2_with fail
      refine (go_c w3 _ _ back _ W3).mono ?_
      rintro e w4 ⟨A, n, c, M, rfl, hn, p4, s4, o4, W4, t4⟩
      rw [HB.out.1] at p4
      obtain rfl := List.perm_nil.1 p4
      obtain rfl : n = 0 := hn
      rw [HB.out.2] at W4
      have W4' := Lib.hid W4
      have T4 := Lib.hid (t3.trans t4)
      have B := Lib.hid (And.intro b1 b2)
      clear W2 W3 W4 t3 t4 p4 s4 o4 b1 b2
      go_wp2_with fail
      refine (now_c w4 _ _ _ W4'.out).mono ?_
      rintro e w' ⟨rfl, rfl⟩
      go_wp2_with fail
      go_ret
      exact ⟨rfl, B.out.1.trans ((B.out.2.trans (T4.out.below (by simp) B.out.2.size)).mono B.out.1.size)⟩
    · go_enter Try.func6, Try.ntmps6
      go_wp2_with fail
      refine (begun_c w).mono ?_
      rintro e w1 ⟨rfl, b1⟩
      go_wp2_with fail
      refine (new_c w1 now).mono ?_
      rw [HNT.out]
      rintro e w2 ⟨rfl, W2, b2⟩
      go_wp2_with fail
      refine (set_c w2 _ _ _ W2 i t).mono ?_
      rw [HE.out.1]
      rintro e w3 ⟨rfl, W3, t3⟩
      go_wp2_with fail
      refine (at_c w3 _ _ _ W3 i).mono ?_
      rw [HE.out.2]
      rintro e w4 ⟨rfl, n, rfl⟩
      have T4 := Lib.hid (t3.drawn n)
      have B := Lib.hid (And.intro b1 b2)
      clear W2 W3 t3 b1 b2
      go_wp2_with fail
      go_ret
      exact ⟨rfl, B.out.1.trans ((B.out.2.trans (T4.out.below (by simp) B.out.2.size)).mono B.out.1.size)⟩

end Go.Proofs.Ytnpdhddnlcpaiaa
