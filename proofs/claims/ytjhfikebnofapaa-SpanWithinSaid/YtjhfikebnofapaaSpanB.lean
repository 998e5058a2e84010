/- Contracts: mayDrift, Most, Least; Ratio, scaled, Longest, Shortest. -/
import Derived.Test.YtjhfikebnofapaaSpanA
namespace Go.Proofs.Ytjhfikebnofapaa
open Go.RowKit

theorem okT {a d : Int} (h : PSpan.Ok a d) : decide (PSpan.Ok a d) = true := by simp [h]
theorem okF {a d : Int} (h : ¬ PSpan.Ok a d) : decide (PSpan.Ok a d) = false := by simp [h]

theorem mayDrift_c (w : World) (a d : Int) :
    Calls Try.prog 20 #[.int .i64 a, .int .i64 d] w fun e w' => e = .returned (.bool (decide (PSpan.Ok a d))) ∧ w = w' := by
  by_cases h1 : 0 ≤ a
  · by_cases h2 : a ≤ 1099511627776
    · have HT := Lib.hid (inT (show -1099511627776 ≤ a ∧ a ≤ 1099511627776 by omega))
      by_cases h3 : 0 ≤ d
      · by_cases h4 : d ≤ 500000
        · have H := Lib.hid (okT (show PSpan.Ok a d from ⟨h1, h2, h3, h4⟩))
          go_enter Try.func20, Try.ntmps20
          go_wp2_with fail
          refine (isTime_c w a).mono ?_
          rw [HT.out]
          rintro e w' ⟨rfl, rfl⟩
          go_wp2_with fail
          go_ret
          exact ⟨by rw [H.out]; rfl, rfl⟩
        · have H := Lib.hid (okF (fun h : PSpan.Ok a d => h4 h.2.2.2))
          go_enter Try.func20, Try.ntmps20
          go_wp2_with fail
          refine (isTime_c w a).mono ?_
          rw [HT.out]
          rintro e w' ⟨rfl, rfl⟩
          go_wp2_with fail
          go_ret
          exact ⟨by rw [H.out]; simp [h4], rfl⟩
      · have H := Lib.hid (okF (fun h : PSpan.Ok a d => h3 h.2.2.1))
        go_enter Try.func20, Try.ntmps20
        go_wp2_with fail
        refine (isTime_c w a).mono ?_
        rw [HT.out]
        rintro e w' ⟨rfl, rfl⟩
        go_wp2_with fail
        go_ret
        exact ⟨by rw [H.out]; rfl, rfl⟩
    · have HT := Lib.hid (noT (show ¬ (-1099511627776 ≤ a ∧ a ≤ 1099511627776) by omega))
      have H := Lib.hid (okF (fun h : PSpan.Ok a d => h2 h.2.1))
      go_enter Try.func20, Try.ntmps20
      go_wp2_with fail
      refine (isTime_c w a).mono ?_
      rw [HT.out]
      rintro e w' ⟨rfl, rfl⟩
      go_wp2_with fail
      go_ret
      exact ⟨by rw [H.out]; rfl, rfl⟩
  · have H := Lib.hid (okF (fun h : PSpan.Ok a d => h1 h.1))
    go_enter Try.func20, Try.ntmps20
    go_wp2_with fail
    go_ret
    exact ⟨by rw [H.out]; rfl, rfl⟩

theorem mul_bound {a p A P : Int} (h1 : 0 ≤ a) (h2 : a ≤ A) (h3 : 0 ≤ p) (h4 : p ≤ P) : 0 ≤ a * p ∧ a * p ≤ A * P :=
  ⟨Int.mul_nonneg h1 h3, Int.mul_le_mul h2 h4 h3 (by omega)⟩

theorem Most_c (w : World) (a d : Int) :
    Calls Try.prog 13 #[.int .i64 a, .int .i64 d] w fun e w' => e = .returned (.tuple #[.int .i64 (PSpan.most a d).1, .bool (PSpan.most a d).2]) ∧ w = w' := by
  by_cases h : PSpan.Ok a d
  · have H := Lib.hid (okT h)
    have H3 := Lib.hid (show PSpan.most a d = PSpan.ans ((a * (1000000 + d) + (1000000 - d) - 1) / (1000000 - d)) from if_pos h)
    obtain ⟨h1, h2, h3, h4⟩ := h
    obtain ⟨m1, m2⟩ := mul_bound h1 h2 (show 0 ≤ 1000000 + d by omega) (show 1000000 + d ≤ 1500000 by omega)
    go_enter Try.func13, Try.ntmps13
    go_wp2_with fail
    refine (mayDrift_c w a d).mono ?_
    rw [H.out]
    rintro e w' ⟨rfl, rfl⟩
    go_wp2_with fail
    refine (answer_c w ((a * (1000000 + d) + (1000000 - d) - 1) / (1000000 - d))).mono ?_
    rintro e w' ⟨rfl, rfl⟩
    go_wp2_with fail
    go_ret2
    exact ⟨by rw [H3.out]; rfl, rfl⟩
  · have H := Lib.hid (okF h)
    have H3 := Lib.hid (show PSpan.most a d = (0, false) from if_neg h)
    clear h
    go_enter Try.func13, Try.ntmps13
    go_wp2_with fail
    refine (mayDrift_c w a d).mono ?_
    rw [H.out]
    rintro e w' ⟨rfl, rfl⟩
    go_wp2_with fail
    go_ret2
    exact ⟨by rw [H3.out]; rfl, rfl⟩

theorem Least_c (w : World) (a d : Int) :
    Calls Try.prog 15 #[.int .i64 a, .int .i64 d] w fun e w' => e = .returned (.tuple #[.int .i64 (PSpan.least a d).1, .bool (PSpan.least a d).2]) ∧ w = w' := by
  by_cases h : PSpan.Ok a d
  · have H := Lib.hid (okT h)
    have H3 := Lib.hid (show PSpan.least a d = PSpan.ans (a * (1000000 - d) / (1000000 + d)) from if_pos h)
    obtain ⟨h1, h2, h3, h4⟩ := h
    obtain ⟨m1, m2⟩ := mul_bound h1 h2 (show 0 ≤ 1000000 - d by omega) (show 1000000 - d ≤ 1500000 by omega)
    go_enter Try.func15, Try.ntmps15
    go_wp2_with fail
    refine (mayDrift_c w a d).mono ?_
    rw [H.out]
    rintro e w' ⟨rfl, rfl⟩
    go_wp2_with fail
    refine (answer_c w (a * (1000000 - d) / (1000000 + d))).mono ?_
    rintro e w' ⟨rfl, rfl⟩
    go_wp2_with fail
    go_ret2
    exact ⟨by rw [H3.out]; rfl, rfl⟩
  · have H := Lib.hid (okF h)
    have H3 := Lib.hid (show PSpan.least a d = (0, false) from if_neg h)
    clear h
    go_enter Try.func15, Try.ntmps15
    go_wp2_with fail
    refine (mayDrift_c w a d).mono ?_
    rw [H.out]
    rintro e w' ⟨rfl, rfl⟩
    go_wp2_with fail
    go_ret2
    exact ⟨by rw [H3.out]; rfl, rfl⟩

/-- A part of a number, upwards or downwards. -/
def ratio (a p q : Int) (u : Bool) : Int := if u then PSpan.up a p q else PSpan.dn a p q

theorem Ratio_c (w : World) (a p q : Int) (u : Bool) (h1 : 0 ≤ a) (h2 : a ≤ 1099511627776) (h3 : 500000 ≤ p) (h4 : p ≤ 1500000) (h5 : 500000 ≤ q) (h6 : q ≤ 1500000) :
    Calls Try.prog 22 #[.int .i64 a, .int .i64 p, .int .i64 q, .bool u] w fun e w' => e = .returned (.int .i64 (ratio a p q u)) ∧ w = w' := by
  have HU := Lib.hid (PSpan.up_parts a p q (by omega))
  have HD := Lib.hid (PSpan.dn_parts a p q (by omega))
  have d1 : 0 ≤ a / q := Int.ediv_nonneg h1 (by omega)
  have d2 : a / q ≤ a := Int.ediv_le_self _ h1
  have d3 := Int.emod_nonneg a (show q ≠ 0 by omega)
  have d4 := Int.emod_lt_of_pos a (show 0 < q by omega)
  obtain ⟨m1, m2⟩ := mul_bound d1 (show a / q ≤ 1099511627776 by omega) (show 0 ≤ p by omega) h4
  obtain ⟨m3, m4⟩ := mul_bound d3 (show a % q ≤ 1500000 by omega) (show 0 ≤ p by omega) h4
  have e1 : 0 ≤ a % q * p / q := Int.ediv_nonneg m3 (by omega)
  have e2 : a % q * p / q ≤ a % q * p := Int.ediv_le_self _ m3
  have e3 := Int.emod_nonneg (a % q * p) (show q ≠ 0 by omega)
  have e4 := Int.emod_lt_of_pos (a % q * p) (show 0 < q by omega)
  cases u
  · go_enter Try.func22, Try.ntmps22
    go_wp2_with fail
    go_ret
    exact ⟨by show _ = Ending.returned (.int .i64 (PSpan.dn a p q)); rw [HD.out]; rfl, rfl⟩
  · by_cases hz : a % q * p % q = 0
    · have t1 : (a % q * p % q != 0) = false := by simp [hz]
      have HZ := Lib.hid hz; clear hz
      go_enter Try.func22, Try.ntmps22
      go_wp2_with fail
      go_ret
      exact ⟨by show _ = Ending.returned (.int .i64 (PSpan.up a p q)); rw [HU.out, if_pos HZ.out, Int.add_zero]; rfl, rfl⟩
    · have t1 : (a % q * p % q != 0) = true := by simp [hz]
      have HZ := Lib.hid hz; clear hz
      go_enter Try.func22, Try.ntmps22
      go_wp2_with fail
      go_ret
      exact ⟨by show _ = Ending.returned (.int .i64 (PSpan.up a p q)); rw [HU.out, if_neg HZ.out]; rfl, rfl⟩

/-- What the document's own answer is, upwards or downwards. -/
def scaledP (a p q d : Int) (u : Bool) : Int × Bool := if PSpan.Ok a d then PSpan.ans (ratio a p q u) else (0, false)

theorem scaled_c (w : World) (a p q d : Int) (u : Bool) (h3 : PSpan.Ok a d → 500000 ≤ p ∧ p ≤ 1500000 ∧ 500000 ≤ q ∧ q ≤ 1500000) :
    Calls Try.prog 21 #[.int .i64 a, .int .i64 p, .int .i64 q, .int .i64 d, .bool u] w fun e w' => e = .returned (.tuple #[.int .i64 (scaledP a p q d u).1, .bool (scaledP a p q d u).2]) ∧ w = w' := by
  by_cases h : PSpan.Ok a d
  · have H3 := Lib.hid (show scaledP a p q d u = PSpan.ans (ratio a p q u) from if_pos h)
    obtain ⟨b1, b2, b3, b4⟩ := h3 h
    clear h3
    obtain ⟨h1, h2, h3, h4⟩ := h
    have HT := Lib.hid (inT (show -1099511627776 ≤ a ∧ a ≤ 1099511627776 by omega))
    by_cases ht : -1099511627776 ≤ ratio a p q u ∧ ratio a p q u ≤ 1099511627776
    · have HR := Lib.hid (inT ht)
      have HA := Lib.hid (PSpan.ans_in ht.1 ht.2)
      clear ht
      go_enter Try.func21, Try.ntmps21
      go_wp2_with fail
      refine (rTime_c w a).mono ?_
      rw [HT.out]
      rintro e w' ⟨rfl, rfl⟩
      go_wp2_with fail
      refine (Ratio_c w a p q u h1 h2 b1 b2 b3 b4).mono ?_
      rintro e w' ⟨rfl, rfl⟩
      go_wp2_with fail
      refine (rTime_c w (ratio a p q u)).mono ?_
      rw [HR.out]
      rintro e w' ⟨rfl, rfl⟩
      go_wp2_with fail
      go_ret2
      exact ⟨by rw [H3.out, HA.out]; rfl, rfl⟩
    · have HR := Lib.hid (noT ht)
      have HA := Lib.hid (PSpan.ans_out ht)
      clear ht
      go_enter Try.func21, Try.ntmps21
      go_wp2_with fail
      refine (rTime_c w a).mono ?_
      rw [HT.out]
      rintro e w' ⟨rfl, rfl⟩
      go_wp2_with fail
      refine (Ratio_c w a p q u h1 h2 b1 b2 b3 b4).mono ?_
      rintro e w' ⟨rfl, rfl⟩
      go_wp2_with fail
      refine (rTime_c w (ratio a p q u)).mono ?_
      rw [HR.out]
      rintro e w' ⟨rfl, rfl⟩
      go_wp2_with fail
      go_ret2
      exact ⟨by rw [H3.out, HA.out]; rfl, rfl⟩
  · have H3 := Lib.hid (show scaledP a p q d u = (0, false) from if_neg h)
    clear h3
    by_cases h1 : a < 0
    · clear h
      go_enter Try.func21, Try.ntmps21
      go_wp2_with fail
      go_ret2
      exact ⟨by rw [H3.out]; rfl, rfl⟩
    · by_cases h2 : 1099511627776 < a
      · have HT := Lib.hid (noT (show ¬ (-1099511627776 ≤ a ∧ a ≤ 1099511627776) by omega))
        clear h
        go_enter Try.func21, Try.ntmps21
        go_wp2_with fail
        refine (rTime_c w a).mono ?_
        rw [HT.out]
        rintro e w' ⟨rfl, rfl⟩
        go_wp2_with fail
        go_ret2
        exact ⟨by rw [H3.out]; rfl, rfl⟩
      · have HT := Lib.hid (inT (show -1099511627776 ≤ a ∧ a ≤ 1099511627776 by omega))
        by_cases h4 : d < 0
        · clear h
          go_enter Try.func21, Try.ntmps21
          go_wp2_with fail
          refine (rTime_c w a).mono ?_
          rw [HT.out]
          rintro e w' ⟨rfl, rfl⟩
          go_wp2_with fail
          go_ret2
          exact ⟨by rw [H3.out]; rfl, rfl⟩
        · have h5 : 500000 < d := by
            rcases Int.lt_or_le 500000 d with h5 | h5
            · exact h5
            · exact absurd (show PSpan.Ok a d from ⟨by omega, by omega, by omega, h5⟩) h
          clear h
          go_enter Try.func21, Try.ntmps21
          go_wp2_with fail
          refine (rTime_c w a).mono ?_
          rw [HT.out]
          rintro e w' ⟨rfl, rfl⟩
          go_wp2_with fail
          go_ret2
          exact ⟨by rw [H3.out]; rfl, rfl⟩

theorem scaled_no {a d : Int} (p q : Int) (u : Bool) (h : ¬ PSpan.Ok a d) : scaledP a p q d u = (0, false) := if_neg h

theorem Longest_c (w : World) (a d : Int) :
    Calls Try.prog 14 #[.int .i64 a, .int .i64 d] w fun e w' => e = .returned (.tuple #[.int .i64 (PSpan.most a d).1, .bool (PSpan.most a d).2]) ∧ w = w' := by
  by_cases h : PSpan.Ok a d
  · have H3 := Lib.hid (show PSpan.most a d = scaledP a (1000000 + d) (1000000 - d) d true from (if_pos h : PSpan.most a d = PSpan.ans (PSpan.up a (1000000 + d) (1000000 - d))).trans (if_pos h : scaledP a (1000000 + d) (1000000 - d) d true = PSpan.ans (ratio a (1000000 + d) (1000000 - d) true)).symm)
    obtain ⟨h1, h2, h3, h4⟩ := h
    go_enter Try.func14, Try.ntmps14
    go_wp2_with fail
    refine (scaled_c w a (1000000 + d) (1000000 - d) d true (fun _ => by omega)).mono ?_
    rintro e w' ⟨rfl, rfl⟩
    go_wp2_with fail
    go_ret2
    exact ⟨by rw [H3.out]; rfl, rfl⟩
  · have H3 := Lib.hid (show PSpan.most a d = (0, false) from if_neg h)
    have H := Lib.hid h; clear h
    go_enter Try.func14, Try.ntmps14
    go_wp2_with fail
    refine (scaled_c w a _ _ d true (fun h => absurd h H.out)).mono ?_
    rw [scaled_no _ _ _ H.out]
    rintro e w' ⟨rfl, rfl⟩
    go_wp2_with fail
    go_ret2
    exact ⟨by rw [H3.out]; rfl, rfl⟩

theorem Shortest_c (w : World) (a d : Int) :
    Calls Try.prog 16 #[.int .i64 a, .int .i64 d] w fun e w' => e = .returned (.tuple #[.int .i64 (PSpan.least a d).1, .bool (PSpan.least a d).2]) ∧ w = w' := by
  by_cases h : PSpan.Ok a d
  · have H3 := Lib.hid (show PSpan.least a d = scaledP a (1000000 - d) (1000000 + d) d false from (if_pos h : PSpan.least a d = PSpan.ans (PSpan.dn a (1000000 - d) (1000000 + d))).trans (if_pos h : scaledP a (1000000 - d) (1000000 + d) d false = PSpan.ans (ratio a (1000000 - d) (1000000 + d) false)).symm)
    obtain ⟨h1, h2, h3, h4⟩ := h
    go_enter Try.func16, Try.ntmps16
    go_wp2_with fail
    refine (scaled_c w a (1000000 - d) (1000000 + d) d false (fun _ => by omega)).mono ?_
    rintro e w' ⟨rfl, rfl⟩
    go_wp2_with fail
    go_ret2
    exact ⟨by rw [H3.out]; rfl, rfl⟩
  · have H3 := Lib.hid (show PSpan.least a d = (0, false) from if_neg h)
    have H := Lib.hid h; clear h
    go_enter Try.func16, Try.ntmps16
    go_wp2_with fail
    refine (scaled_c w a _ _ d false (fun h => absurd h H.out)).mono ?_
    rw [scaled_no _ _ _ H.out]
    rintro e w' ⟨rfl, rfl⟩
    go_wp2_with fail
    go_ret2
    exact ⟨by rw [H3.out]; rfl, rfl⟩

end Go.Proofs.Ytjhfikebnofapaa
