/- Contracts of package wheel: isTime, isID, New, Set, At, Stop, Now. -/
import Derived.Test.YtnpdhddnlcpaiaaInt
import Derived.Test.YtnpdhddnlcpaiaaTouch
import Derived.Test.YtnpdhddnlcpaiaaPlainWheel
import Derived.BigQuiet
import Derived.BigRegion
import Derived.Deep.QuietTactic
namespace Go.Proofs.Ytnpdhddnlcpaiaa
open Go.RowKit

theorem Touch.drawn {S : List Nat} {a w : World} (h : Touch S a w) (n : Nat) : Touch S a (w.drewN n) := ⟨h.os, h.tape, h.output, h.size, h.block⟩

theorem below_drawn {B : Nat} {a w : World} (h : Below B a w) (n : Nat) : Below B a (w.drewN n) := ⟨h.os, h.tape, h.output, h.size, h.block⟩
def tc (t : Int × Bool) : List Value := [.int .i64 t.1, .bool t.2]
theorem tc_len : ∀ (T : List (Int × Bool)), (T.flatMap tc).length = 2 * T.length
  | [] => rfl
  | t :: T => by rw [List.flatMap_cons, List.length_append, tc_len T, List.length_cons]; simp [tc]; omega
theorem tc_at : ∀ (T : List (Int × Bool)) (i : Nat), i < T.length → (T.flatMap tc)[2 * i]? = some (.int .i64 (PWheel.tm T i).1) ∧ (T.flatMap tc)[2 * i + 1]? = some (.bool (PWheel.tm T i).2)
  | t :: T, 0, _ => by simp [tc, PWheel.tm]
  | t :: T, i + 1, h => by
    have := tc_at T i (by simpa using h)
    rw [show 2 * (i + 1) = 2 * i + 1 + 1 by omega]
    simpa [tc, PWheel.tm] using this
theorem tc_set : ∀ (T : List (Int × Bool)) (i : Nat) (a : Int) (b : Bool), i < T.length → ((T.flatMap tc).set (2 * i) (.int .i64 a)).set (2 * i + 1) (.bool b) = (T.set i (a, b)).flatMap tc
  | t :: T, 0, a, b, _ => by simp [tc]
  | t :: T, i + 1, a, b, h => by
    have := tc_set T i a b (by simpa using h)
    rw [show 2 * (i + 1) = 2 * i + 1 + 1 by omega]
    simpa [tc] using this

/-- Block g is a wheel: its time, its timers. -/
def Wl (w : World) (g : Nat) (now : Int) (T : List (Int × Bool)) : Prop := T.length = 64 ∧ Blk w g 53 (.int .i64 now :: T.flatMap tc)
section
variable {w w' : World} {g : Nat} {now : Int} {T : List (Int × Bool)} {S : List Nat}
theorem Wl.tick (h : Wl w g now T) : w.cell? ⟨g, 0, none⟩ = some (.int .i64 now) := Blk.cell h.2 rfl
theorem Wl.free (h : Wl w g now T) (i : Nat) : w.frozen? ⟨g, i, none⟩ = false := Blk.free h.2 i
theorem Wl.at_ (h : Wl w g now T) {i : Nat} (hi : i < 64) : w.cell? ⟨g, 1 + i * 2, none⟩ = some (.int .i64 (PWheel.tm T i).1) ∧ w.cell? ⟨g, 1 + i * 2 + 1, none⟩ = some (.bool (PWheel.tm T i).2) := by
  have := tc_at T i (by rw [h.1]; exact hi)
  refine ⟨Blk.cell h.2 ?_, Blk.cell h.2 ?_⟩
  · rw [show 1 + i * 2 = 2 * i + 1 by omega]; simpa using this.1
  · rw [show 1 + i * 2 + 1 = (2 * i + 1) + 1 by omega]; simpa using this.2
theorem Wl.set (h : Wl w g now T) {i : Nat} (hi : i < 64) (a : Int) (b : Bool) : Wl ((w.setCell ⟨g, 1 + i * 2, none⟩ (.int .i64 a)).setCell ⟨g, 1 + i * 2 + 1, none⟩ (.bool b)) g now (T.set i (a, b)) := by
  refine ⟨by rw [List.length_set]; exact h.1, ?_⟩
  have := Blk.set (Blk.set h.2 (1 + i * 2) (.int .i64 a)) (1 + i * 2 + 1) (.bool b)
  rw [show 1 + i * 2 = 2 * i + 1 by omega] at this ⊢
  rw [List.set_cons_succ, List.set_cons_succ, tc_set T i a b (by rw [h.1]; exact hi)] at this
  exact this
theorem Wl.time (h : Wl w g now T) (n : Int) : Wl (w.setCell ⟨g, 0, none⟩ (.int .i64 n)) g n T := by
  refine ⟨h.1, ?_⟩
  have := Blk.set h.2 0 (.int .i64 n)
  rwa [List.set_cons_zero] at this
theorem Wl.touch (h : Wl w g now T) (ht : Touch S w w') (hg : g ∉ S) : Wl w' g now T := ⟨h.1, h.2.touch ht hg⟩
theorem Wl.past (h : Wl w g now T) (hb : Below w.heap.size w w') : Wl w' g now T := ⟨h.1, h.2.past hb⟩
theorem Wl.lt (h : Wl w g now T) : g < w.heap.size := h.2.lt
end

theorem inT {a : Int} (h : -1099511627776 ≤ a ∧ a ≤ 1099511627776) : PWheel.isT a = true := by simp [PWheel.isT, h]
theorem noT {a : Int} (h : ¬ (-1099511627776 ≤ a ∧ a ≤ 1099511627776)) : PWheel.isT a = false := by simp [PWheel.isT, h]

theorem sTime_c (w : World) (a : Int) :
    Calls Try.prog 26 #[.int .i64 a] w fun e w' => e = .returned (.bool (PWheel.isT a)) ∧ w = w' := by
  have e : PWheel.isT a = (decide (-1099511627776 ≤ a) && decide (a ≤ 1099511627776)) := Bool.decide_and ..
  rw [e]; clear e
  by_cases h1 : -1099511627776 ≤ a <;> by_cases h2 : a ≤ 1099511627776
  all_goals
    go_enter Try.func26, Try.ntmps26
    go_wp2_with fail
    go_ret
    exact ⟨by simp [h1, h2], rfl⟩

theorem rTime_c (w : World) (a : Int) :
    Calls Try.prog 10 #[.int .i64 a] w fun e w' => e = .returned (.bool (PWheel.isT a)) ∧ w = w' := by
  have e : PWheel.isT a = (decide (-1099511627776 ≤ a) && decide (a ≤ 1099511627776)) := Bool.decide_and ..
  rw [e]; clear e
  by_cases h1 : -1099511627776 ≤ a <;> by_cases h2 : a ≤ 1099511627776
  all_goals
    go_enter Try.func10, Try.ntmps10
    go_wp2_with fail
    go_ret
    exact ⟨by simp [h1, h2], rfl⟩

theorem answer_c (w : World) (a : Int) (h : PWheel.isT a = true) :
    Calls Try.prog 27 #[.int .i64 a] w fun e w' => e = .returned (.tuple #[.int .i64 a, .bool true]) ∧ w = w' := by
  have H2 := Lib.hid h; clear h
  go_enter Try.func27, Try.ntmps27
  go_wp2_with fail
  refine (sTime_c w a).mono ?_
  rw [H2.out]
  rintro e w' ⟨rfl, rfl⟩
  go_wp2_with fail
  go_ret2
  exact ⟨rfl, rfl⟩

theorem addz_c (w : World) (a : Int) :
    Calls Try.prog 22 #[.int .i64 a, .int .i64 0] w fun e w' => (∃ x, e = .returned (.tuple #[.int .i64 x, .bool (PWheel.isT a)])) ∧ w = w' := by
  by_cases ha : -1099511627776 ≤ a ∧ a ≤ 1099511627776
  · have H1 := Lib.hid (inT ha)
    obtain ⟨a1, a2⟩ := ha
    go_enter Try.func22, Try.ntmps22
    go_wp2_with fail
    refine (sTime_c w a).mono ?_
    rw [H1.out]
    rintro e w' ⟨rfl, rfl⟩
    go_wp2_with fail
    refine (sTime_c w 0).mono ?_
    rw [show PWheel.isT 0 = true from rfl]
    rintro e w' ⟨rfl, rfl⟩
    go_wp2_with fail
    refine (answer_c w a H1.out).mono ?_
    rintro e w' ⟨rfl, rfl⟩
    go_wp2_with fail
    go_ret2
    exact ⟨⟨a, by rw [H1.out]; rfl⟩, rfl⟩
  · have H1 := Lib.hid (noT ha)
    clear ha
    go_enter Try.func22, Try.ntmps22
    go_wp2_with fail
    refine (sTime_c w a).mono ?_
    rw [H1.out]
    rintro e w' ⟨rfl, rfl⟩
    go_wp2_with fail
    go_ret2
    exact ⟨⟨0, by rw [H1.out]; rfl⟩, rfl⟩

theorem wTime_c (w : World) (a : Int) :
    Calls Try.prog 19 #[.int .i64 a] w fun e w' => e = .returned (.bool (PWheel.isT a)) ∧ w = w' := by
  go_enter Try.func19, Try.ntmps19
  go_wp2_with fail
  refine (addz_c w a).mono ?_
  generalize hb : PWheel.isT a = b
  have HB := Lib.hid hb
  clear hb
  rintro e w' ⟨⟨x, rfl⟩, rfl⟩
  go_wp2_with fail
  go_ret
  exact ⟨by rw [HB.out]; rfl, rfl⟩

theorem wID_c (w : World) (i : Int) :
    Calls Try.prog 20 #[.int .i64 i] w fun e w' => e = .returned (.bool (PWheel.isI i)) ∧ w = w' := by
  have e : PWheel.isI i = (decide (0 ≤ i) && decide (i < 64)) := Bool.decide_and ..
  rw [e]; clear e
  by_cases h1 : 0 ≤ i <;> by_cases h2 : i < 64
  all_goals
    go_enter Try.func20, Try.ntmps20
    go_wp2_with fail
    go_ret
    exact ⟨by simp [h1, h2], rfl⟩

/-- A wheel's cells, all zero. -/
def zc : List Value := .int .i64 0 :: PWheel.zero.flatMap tc
theorem zc_set (n : Int) : (zc.toArray).setIfInBounds 0 (.int .i64 n) = (.int .i64 n :: PWheel.zero.flatMap tc).toArray := by
  unfold zc; simp
theorem zc_ne : (zc.toArray = #[]) = False := by unfold zc; simp
theorem wheel_zero (w : World) : (zeroValue 53).run Try.prog w = .ok (.agg zc.toArray) w := by
  have : (Try.prog.info? 53).map (·.zero) = some (some (.agg zc.toArray)) := by kernel_rfl
  cases hq : Try.prog.info? 53 with
  | none => simp [hq] at this
  | some i =>
    simp [hq] at this
    simp [zeroValue, typeInfo, hq, this]

set_option maxRecDepth 100000 in
theorem new_c (w : World) (now : Int) :
    Calls Try.prog 9 #[.int .i64 now] w fun e w' => e = .returned (.pointer (some ⟨w.heap.size, 0, none⟩)) ∧ Wl w' w.heap.size (PWheel.newT now) PWheel.zero ∧ Below w.heap.size w w' := by
  have hz := wheel_zero
  have hn := zc_ne
  have hs := zc_set
  cases h : PWheel.isT now
  · have H := Lib.hid h
    have H2 := Lib.hid (show PWheel.newT now = 0 by simp [PWheel.newT, h])
    clear h
    go_enter Try.func9, Try.ntmps9
    go_wp2_with fail
    refine (wTime_c w now).mono ?_
    rw [H.out]
    rintro e w' ⟨rfl, rfl⟩
    go_wp2_with fail
    go_ret
    exact ⟨rfl, by rw [H2.out]; exact ⟨rfl, Blk.new w _ _⟩, (Below.refl _ _).alloc (Nat.le_refl _) _⟩
  · have H := Lib.hid h
    have H2 := Lib.hid (show PWheel.newT now = now by simp [PWheel.newT, h])
    clear h
    go_enter Try.func9, Try.ntmps9
    go_wp2_with fail
    refine (wTime_c w now).mono ?_
    rw [H.out]
    rintro e w' ⟨rfl, rfl⟩
    go_wp2_with fail
    go_ret
    exact ⟨rfl, by rw [H2.out]; exact ⟨rfl, Blk.new w _ _⟩, (Below.refl _ _).alloc (Nat.le_refl _) _⟩

theorem now_c (w : World) (g : Nat) (now : Int) (T : List (Int × Bool)) (h : Wl w g now T) :
    Calls Try.prog 17 #[.pointer (some ⟨g, 0, none⟩)] w fun e w' => e = .returned (.int .i64 now) ∧ w = w' := by
  have hc := h.tick
  clear h
  go_enter Try.func17, Try.ntmps17
  go_wp2_with fail
  go_ret
  exact ⟨rfl, rfl⟩

theorem set_c (w : World) (g : Nat) (now : Int) (T : List (Int × Bool)) (h : Wl w g now T) (i t : Int) :
    Calls Try.prog 11 #[.pointer (some ⟨g, 0, none⟩), .int .i64 i, .int .i64 t] w fun e w' =>
      e = .returned (.int .i64 (PWheel.setE i t)) ∧ Wl w' g now (PWheel.setT T i t) ∧ Touch [g] w w' := by
  cases hi : PWheel.isI i
  · have H := Lib.hid hi
    clear hi
    go_enter Try.func11, Try.ntmps11
    go_wp2_with fail
    refine (wID_c w i).mono ?_
    rw [H.out]
    rintro e w' ⟨rfl, rfl⟩
    go_wp2_with fail
    go_ret
    exact ⟨by rw [PWheel.setE_lo H.out]; rfl, by rw [PWheel.setT_lo H.out]; exact h, Touch.refl _ _⟩
  · cases ht : PWheel.isT t
    · have H := Lib.hid hi
      have H2 := Lib.hid ht
      clear hi ht
      go_enter Try.func11, Try.ntmps11
      go_wp2_with fail
      refine (wID_c w i).mono ?_
      rw [H.out]
      rintro e w' ⟨rfl, rfl⟩
      go_wp2_with fail
      refine (wTime_c w t).mono ?_
      rw [H2.out]
      rintro e w' ⟨rfl, rfl⟩
      go_wp2_with fail
      go_ret
      exact ⟨by rw [PWheel.setE_no H2.out]; rfl, by rw [PWheel.setT_no H2.out]; exact h, Touch.refl _ _⟩
    · have hi2 := of_decide_eq_true hi
      obtain ⟨j, rfl⟩ := Int.eq_ofNat_of_zero_le hi2.1
      have hj : j < 64 := by omega
      have H := Lib.hid hi
      have H2 := Lib.hid ht
      obtain ⟨c1, c2⟩ := h.at_ hj
      have f1 := h.free (1 + j * 2)
      have f2 := h.free (1 + j * 2 + 1)
      have hs := Lib.hid (h.set hj t true)
      clear hi ht hi2 h
      go_enter Try.func11, Try.ntmps11
      go_wp2_with fail
      refine (wID_c w j).mono ?_
      rw [H.out]
      rintro e w' ⟨rfl, rfl⟩
      go_wp2_with fail
      refine (wTime_c w t).mono ?_
      rw [H2.out]
      rintro e w' ⟨rfl, rfl⟩
      go_wp2_with fail
      go_ret
      exact ⟨by rw [PWheel.setE_in H.out H2.out]; rfl, by rw [PWheel.setT_in H.out H2.out]; exact hs.out, (Touch.of_grown (grown_set _ _ _ _)).trans (Touch.of_grown (grown_set _ _ _ _))⟩

theorem set_nil (w : World) :
    Calls Try.prog 11 #[.pointer none, .int .i64 1, .int .i64 1] w fun e w' => e = .returned (.int .i64 8) ∧ w = w' := by
  go_enter Try.func11, Try.ntmps11
  go_wp2_with fail
  refine (wID_c w 1).mono ?_
  rw [show PWheel.isI 1 = true from rfl]
  rintro e w' ⟨rfl, rfl⟩
  go_wp2_with fail
  refine (wTime_c w 1).mono ?_
  rw [show PWheel.isT 1 = true from rfl]
  rintro e w' ⟨rfl, rfl⟩
  go_wp2_with fail
  go_ret
  exact ⟨rfl, rfl⟩

end Go.Proofs.Ytnpdhddnlcpaiaa
