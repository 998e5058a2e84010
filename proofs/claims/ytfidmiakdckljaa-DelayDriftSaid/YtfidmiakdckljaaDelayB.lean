/- Contracts of package delay: Bound, Fast. -/
import Derived.Test.YtfidmiakdckljaaDelayA
namespace Go.Proofs.Ytfidmiakdckljaa
open Go.RowKit

/-- A trip by value. -/
def tv (s h b c : Int) : Value := .agg #[.int .i64 s, .int .i64 h, .int .i64 b, .int .i64 c]

theorem Bound_c (w : World) (s h b c p : Int) :
    Calls Try.prog 9 #[tv s h b c, .int .i64 p] w fun e w' => e = .returned (.tuple #[.int .i64 (PDelay.bound s h b c p).1, .bool (PDelay.bound s h b c p).2]) ∧ Below w.heap.size w w' := by
  have KW := Lib.hid (fun w' => went_c w' s c)
  have KH := Lib.hid (fun w' => went_c w' h b)
  have KR := Lib.hid (fun w' => lRate_c w' p)
  by_cases hw : (PDelay.went s c).2 = true
  · by_cases hh : (PDelay.went h b).2 = true
    · by_cases hr : PDelay.Rate p
      · have HB := Lib.hid (show PDelay.bound s h b c p = PSpan.add (PDelay.raw (PDelay.went s c).1 (PDelay.went h b).1 p) 0 from if_pos ⟨hw, hh, hr⟩)
        have y1 := PDelay.went_yes hw
        have y2 := PDelay.went_yes hh
        have HR := Lib.hid (decide_eq_true hr)
        obtain ⟨u1, u2⟩ := PDelay.up_big y1.2.1 y1.2.2.1 hr
        obtain ⟨d1, d2⟩ := PDelay.dn_big y2.2.1 hr
        have KM := Lib.hid (fun w' => mostReal_c w' (c - s) p y1.2.1 y1.2.2.1 hr)
        have KL := Lib.hid (fun w' => leastReal_c w' (b - h) p y2.2.1 y2.2.2.1 hr)
        have l1 := y1.2.1
        have l2 := y1.2.2.1
        have l3 := y2.2.1
        have l4 := y2.2.2.1
        rw [y1.1, y2.1] at HB
        rw [y1.1] at KW
        rw [y2.1] at KH
        have KA := Lib.hid (fun w' => add_c w' (max 0 (PSpan.up (c - s) 1000000 (1000000 - p) - PSpan.dn (b - h) 1000000 (1000000 + p))) 0)
        have HB' := Lib.hid (show PDelay.bound s h b c p = PSpan.add (max 0 (PSpan.up (c - s) 1000000 (1000000 - p) - PSpan.dn (b - h) 1000000 (1000000 + p))) 0 from HB.out)
        clear HB hw hh hr y1 y2
        generalize PDelay.bound s h b c p = r at *
        generalize PSpan.up (c - s) 1000000 (1000000 - p) = u at *
        generalize PSpan.dn (b - h) 1000000 (1000000 + p) = d at *
        show Calls _ _ #[.agg #[.int .i64 s, .int .i64 h, .int .i64 b, .int .i64 c], _] _ _
        go_enter Try.func9, Try.ntmps9
        go_wp2_with fail
        refine (KW.out _).mono ?_
        rintro e w1 ⟨rfl, rfl⟩
        go_wp2_with fail
        refine (KH.out _).mono ?_
        rintro e w1 ⟨rfl, rfl⟩
        go_wp2_with fail
        refine (KR.out _).mono ?_
        rw [HR.out]
        rintro e w1 ⟨rfl, rfl⟩
        go_wp2_with fail
        refine (KM.out _).mono ?_
        rintro e w1 ⟨rfl, rfl⟩
        go_wp2_with fail
        refine (KL.out _).mono ?_
        rintro e w1 ⟨rfl, rfl⟩
        go_wp2_with fail
        refine (KA.out _).mono ?_
        rintro e w1 ⟨rfl, rfl⟩
        go_wp2_with fail
        go_ret2
        exact ⟨by rw [HB'.out]; rfl, (Below.refl _ _).alloc (Nat.le_refl _) _⟩
      · have HB := Lib.hid (show PDelay.bound s h b c p = (0, false) from if_neg (fun x => hr x.2.2))
        have HR := Lib.hid (decide_eq_false hr)
        have HW := Lib.hid hw
        have HH := Lib.hid hh
        clear hw hh hr
        show Calls _ _ #[.agg #[.int .i64 s, .int .i64 h, .int .i64 b, .int .i64 c], _] _ _
        go_enter Try.func9, Try.ntmps9
        go_wp2_with fail
        refine (KW.out _).mono ?_
        rw [HW.out]
        rintro e w1 ⟨rfl, rfl⟩
        go_wp2_with fail
        refine (KH.out _).mono ?_
        rw [HH.out]
        rintro e w1 ⟨rfl, rfl⟩
        go_wp2_with fail
        refine (KR.out _).mono ?_
        rw [HR.out]
        rintro e w1 ⟨rfl, rfl⟩
        go_wp2_with fail
        go_ret2
        exact ⟨by rw [HB.out]; rfl, (Below.refl _ _).alloc (Nat.le_refl _) _⟩
    · have HB := Lib.hid (show PDelay.bound s h b c p = (0, false) from if_neg (fun x => hh x.2.1))
      have HW := Lib.hid hw
      have HH := Lib.hid (Bool.eq_false_iff.2 hh)
      clear hw hh
      show Calls _ _ #[.agg #[.int .i64 s, .int .i64 h, .int .i64 b, .int .i64 c], _] _ _
      go_enter Try.func9, Try.ntmps9
      go_wp2_with fail
      refine (KW.out _).mono ?_
      rw [HW.out]
      rintro e w1 ⟨rfl, rfl⟩
      go_wp2_with fail
      refine (KH.out _).mono ?_
      rw [HH.out]
      rintro e w1 ⟨rfl, rfl⟩
      go_wp2_with fail
      go_ret2
      exact ⟨by rw [HB.out]; rfl, (Below.refl _ _).alloc (Nat.le_refl _) _⟩
  · have HB := Lib.hid (show PDelay.bound s h b c p = (0, false) from if_neg (fun x => hw x.1))
    have HW := Lib.hid (Bool.eq_false_iff.2 hw)
    clear hw
    show Calls _ _ #[.agg #[.int .i64 s, .int .i64 h, .int .i64 b, .int .i64 c], _] _ _
    go_enter Try.func9, Try.ntmps9
    go_wp2_with fail
    refine (KW.out _).mono ?_
    rw [HW.out]
    rintro e w1 ⟨rfl, rfl⟩
    go_wp2_with fail
    refine (KH.out _).mono ?_
    rintro e w1 ⟨rfl, rfl⟩
    go_wp2_with fail
    go_ret2
    exact ⟨by rw [HB.out]; rfl, (Below.refl _ _).alloc (Nat.le_refl _) _⟩

theorem Fast_c (w : World) (s h b c p m : Int) :
    Calls Try.prog 10 #[tv s h b c, .int .i64 p, .int .i64 m] w fun e w' => e = .returned (.bool (PDelay.fast s h b c p m)) ∧ Below w.heap.size w w' := by
  have KB := Lib.hid (fun w' => Bound_c w' s h b c p)
  have HF := Lib.hid (show PDelay.fast s h b c p m = ((PDelay.bound s h b c p).2 && decide ((PDelay.bound s h b c p).1 ≤ m)) from rfl)
  generalize PDelay.bound s h b c p = r at *
  generalize PDelay.fast s h b c p m = o at *
  obtain ⟨x, ok⟩ := r
  show Calls _ _ #[.agg #[.int .i64 s, .int .i64 h, .int .i64 b, .int .i64 c], _, _] _ _
  cases ok
  · go_enter Try.func10, Try.ntmps10
    go_wp2_with fail
    have b0 := (Below.refl w.heap.size w).alloc (Nat.le_refl _) (.cells #[.int .i64 s, .int .i64 h, .int .i64 b, .int .i64 c] 27)
    refine (KB.out _).mono ?_
    rintro e w1 ⟨rfl, b1⟩
    have b1 := b0.trans (b1.mono b0.size)
    go_wp2_with fail
    go_ret
    exact ⟨by rw [HF.out]; rfl, b1⟩
  · by_cases hm : x ≤ m
    · have HM := Lib.hid (decide_eq_true hm)
      go_enter Try.func10, Try.ntmps10
      go_wp2_with fail
      have b0 := (Below.refl w.heap.size w).alloc (Nat.le_refl _) (.cells #[.int .i64 s, .int .i64 h, .int .i64 b, .int .i64 c] 27)
      refine (KB.out _).mono ?_
      rintro e w1 ⟨rfl, b1⟩
      have b1 := b0.trans (b1.mono b0.size)
      go_wp2_with fail
      go_ret
      exact ⟨by rw [HF.out]; simp [HM.out], b1⟩
    · have HM := Lib.hid (decide_eq_false hm)
      go_enter Try.func10, Try.ntmps10
      go_wp2_with fail
      have b0 := (Below.refl w.heap.size w).alloc (Nat.le_refl _) (.cells #[.int .i64 s, .int .i64 h, .int .i64 b, .int .i64 c] 27)
      refine (KB.out _).mono ?_
      rintro e w1 ⟨rfl, b1⟩
      have b1 := b0.trans (b1.mono b0.size)
      go_wp2_with fail
      go_ret
      exact ⟨by rw [HF.out]; simp [HM.out], b1⟩
end Go.Proofs.Ytfidmiakdckljaa
