/- The walks of package wheel's statements: begun, WheelNone, WheelEnds. -/
import Derived.Test.YtnpdhddnlcpaiaaWheelE
namespace Go.Proofs.Ytnpdhddnlcpaiaa
open Go.RowKit

def bT1 : List (Int × Bool) := PWheel.setT PWheel.zero 3 9
def bT2 : List (Int × Bool) := PWheel.setT bT1 1 9
theorem bT2_due : PWheel.goD bT2 5 9 = [1, 3] := by decide +kernel
theorem bT2_next : PWheel.next bT2 64 = (9, true) := by decide +kernel
theorem bT2_sorted : [(1 : Int), 3].Pairwise (PSort.lt (PWheel.key bT2)) := by
  refine List.pairwise_cons.2 ⟨fun y hy => ?_, by simp⟩
  simp at hy; subst hy
  exact .inr ⟨by decide +kernel, by decide⟩
theorem bT2_cnt : PWheel.cnt (PWheel.clr bT2 [1, 3]) 64 = 0 := by decide +kernel
theorem bT2_told : PWheel.told (PWheel.clr bT2 [1, 3]) 1 = (0, false) := by decide +kernel

set_option maxHeartbeats 1600000 in
set_option maxRecDepth 100000 in
theorem begun_c (w : World) :
    Calls Try.prog 8 #[] w fun e w' => e = .returned (.bool true) ∧ Below w.heap.size w w' := by
  go_enter Try.func8, Try.ntmps8
  go_wp2_with fail
  refine (new_c w 5).mono ?_
  rintro e w1 ⟨rfl, W1, b1⟩
  go_wp2_with fail
  refine (set_c w1 _ _ _ W1 3 9).mono ?_
  rintro e w2 ⟨rfl, W2, t2⟩
  clear W1
  rw [show PWheel.setE 3 9 = 0 from rfl]
  go_wp2_with fail
  refine (set_c w2 _ _ _ W2 1 9).mono ?_
  rintro e w3 ⟨rfl, W3, t3⟩
  clear W2
  rw [show PWheel.setE 1 9 = 0 from rfl]
  have T3 := Lib.hid (t2.trans t3)
  clear t2 t3
  go_wp2_with fail
  refine (next_c w3 _ _ bT2 W3).mono ?_
  rw [bT2_next]
  rintro e w4 ⟨rfl, b4⟩
  have W4 := W3.past b4
  have T4 := Lib.hid (T3.out.trans (Touch.of_below b4))
  clear W3 T3 b4
  go_wp2_with fail
  refine (go_c w4 _ _ 9 bT2 W4).mono ?_
  rintro e w5 ⟨A, n, c, M, rfl, hn, p5, s5, o5, W5, t5⟩
  rw [show PWheel.newT 5 = 5 from rfl] at p5 W5
  rw [bT2_due] at p5
  obtain rfl := PSort.sorted_one p5 s5 bT2_sorted
  obtain rfl : n = 2 := hn
  rw [show PWheel.goN 5 9 = 9 from rfl] at W5
  have hr := Rd.of_own o5
  obtain ⟨b, o, x, rfl, c0, -, rfl⟩ := hr.int (i := 0) (by omega)
  obtain ⟨b', o', x, hA, c1, -, rfl⟩ := hr.int (i := 1) (by omega)
  cases hA
  have T5 := Lib.hid (T4.out.trans t5)
  have W5' := Lib.hid W5
  have B1 := Lib.hid b1
  have c0' : w5.cell? ⟨b, o, none⟩ = some (.int .i64 1) := c0
  have c1' : w5.cell? ⟨b, o + 1, none⟩ = some (.int .i64 3) := c1
  clear c0 c1
  clear W4 T4 W5 t5 hr o5 p5 s5 b1
  go_wp2_with fail
  refine (now_c w5 _ _ _ W5'.out).mono ?_
  rintro e w' ⟨rfl, rfl⟩
  go_wp2_with fail
  refine (len_c w5 _ _ _ W5'.out).mono ?_
  rw [bT2_cnt]
  rintro e w6 ⟨rfl, b6⟩
  have W6 := W5'.out.past b6
  have T6 := Lib.hid (T5.out.trans (Touch.of_below b6))
  clear W5' T5 b6 c0' c1'
  go_wp2_with fail
  refine (stop_c w6 _ _ _ W6 1).mono ?_
  rw [bT2_told]
  rintro e w7 ⟨rfl, -, t7⟩
  have T7 := Lib.hid (T6.out.trans t7)
  clear W6 T6 t7
  go_wp2_with fail
  go_ret
  exact ⟨rfl, B1.out.trans (T7.out.below (by simp) B1.out.size)⟩

set_option maxHeartbeats 1600000 in
set_option maxRecDepth 100000 in
theorem WheelNone_w (w : World) :
    Calls Try.prog 5 #[] w fun e w' => e = .returned (.bool true) ∧ Below w.heap.size w w' := by
  go_enter Try.func5, Try.ntmps5
  go_wp2_with fail
  refine (at_nil w 1).mono ?_
  rintro e w' ⟨rfl, rfl⟩
  go_wp2_with fail
  refine (next_nil w).mono ?_
  rintro e w' ⟨rfl, rfl⟩
  go_wp2_with fail
  refine (begun_c w).mono ?_
  rintro e w1 ⟨rfl, b1⟩
  go_wp2_with fail
  refine (set_nil w1).mono ?_
  rintro e w' ⟨rfl, rfl⟩
  go_wp2_with fail
  refine (stop_nil w1 1).mono ?_
  rintro e w' ⟨rfl, rfl⟩
  go_wp2_with fail
  refine (go_nil w1 9).mono ?_
  rintro e w' ⟨rfl, rfl⟩
  go_wp2_with fail
  refine (now_nil w1).mono ?_
  rintro e w' ⟨rfl, rfl⟩
  go_wp2_with fail
  refine (len_nil w1).mono ?_
  rintro e w' ⟨rfl, rfl⟩
  go_wp2_with fail
  go_ret
  exact ⟨rfl, b1⟩

end Go.Proofs.Ytnpdhddnlcpaiaa
