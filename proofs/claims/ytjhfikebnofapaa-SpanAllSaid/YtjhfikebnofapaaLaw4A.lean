/- The walks of the laws of layer 4: begun, SpanAll, SpanRound, SpanWithin, SpanBack, SpanGrows. -/
import Derived.Test.YtjhfikebnofapaaSpanB
namespace Go.Proofs.Ytjhfikebnofapaa
open Go.RowKit

set_option maxHeartbeats 1000000 in
set_option maxRecDepth 100000 in
theorem begun_c (w : World) :
    Calls Try.prog 8 #[] w fun e w' => e = .returned (.bool true) ∧ w = w' := by
  have H1 := Lib.hid (show PSpan.add 3 4 = (7, true) by decide)
  have H2 := Lib.hid (show PSpan.sub 3 4 = (-1, true) by decide)
  have H3 := Lib.hid (show PSpan.add 1099511627776 1 = (0, false) by decide)
  have H4 := Lib.hid (show PSpan.most 10 100000 = (13, true) by decide)
  have H5 := Lib.hid (show PSpan.least 10 100000 = (8, true) by decide)
  go_enter Try.func8, Try.ntmps8
  go_wp2_with fail
  refine (add_c w 3 4).mono ?_
  rw [H1.out]
  rintro e w' ⟨rfl, rfl⟩
  go_wp2_with fail
  refine (sub_c w 3 4).mono ?_
  rw [H2.out]
  rintro e w' ⟨rfl, rfl⟩
  go_wp2_with fail
  refine (add_c w 1099511627776 1).mono ?_
  rw [H3.out]
  rintro e w' ⟨rfl, rfl⟩
  go_wp2_with fail
  refine (Most_c w 10 100000).mono ?_
  rw [H4.out]
  rintro e w' ⟨rfl, rfl⟩
  go_wp2_with fail
  refine (Least_c w 10 100000).mono ?_
  rw [H5.out]
  rintro e w' ⟨rfl, rfl⟩
  go_wp2_with fail
  go_ret
  exact ⟨rfl, rfl⟩

set_option maxHeartbeats 1000000 in
set_option maxRecDepth 100000 in
theorem SpanAll_w (w : World) (a b d : Int) :
    Calls Try.prog 3 #[.int .i64 a, .int .i64 b, .int .i64 d] w fun e w' => e = .returned (.bool true) ∧ w = w' := by
  obtain ⟨⟨x1, x2⟩, e1⟩ : ∃ x, PSpan.add a b = x := ⟨_, rfl⟩
  obtain ⟨⟨y1, y2⟩, e2⟩ : ∃ x, PSpan.sub a b = x := ⟨_, rfl⟩
  obtain ⟨⟨u1, u2⟩, e3⟩ : ∃ x, PSpan.most a d = x := ⟨_, rfl⟩
  obtain ⟨⟨v1, v2⟩, e4⟩ : ∃ x, PSpan.least a d = x := ⟨_, rfl⟩
  have H1 := Lib.hid e1; clear e1
  have H2 := Lib.hid e2; clear e2
  have H3 := Lib.hid e3; clear e3
  have H4 := Lib.hid e4; clear e4
  go_enter Try.func3, Try.ntmps3
  go_wp2_with fail
  refine (begun_c w).mono ?_
  rintro e w' ⟨rfl, rfl⟩
  go_wp2_with fail
  refine (add_c w a b).mono ?_
  rw [H1.out]
  rintro e w' ⟨rfl, rfl⟩
  go_wp2_with fail
  refine (rAdd_c w a b).mono ?_
  rw [H1.out]
  rintro e w' ⟨rfl, rfl⟩
  go_wp2_with fail
  refine (sub_c w a b).mono ?_
  rw [H2.out]
  rintro e w' ⟨rfl, rfl⟩
  go_wp2_with fail
  refine (rSub_c w a b).mono ?_
  rw [H2.out]
  rintro e w' ⟨rfl, rfl⟩
  go_wp2_with fail
  refine (Most_c w a d).mono ?_
  rw [H3.out]
  rintro e w' ⟨rfl, rfl⟩
  go_wp2_with fail
  refine (Longest_c w a d).mono ?_
  rw [H3.out]
  rintro e w' ⟨rfl, rfl⟩
  go_wp2_with fail
  refine (Least_c w a d).mono ?_
  rw [H4.out]
  rintro e w' ⟨rfl, rfl⟩
  go_wp2_with fail
  refine (Shortest_c w a d).mono ?_
  rw [H4.out]
  rintro e w' ⟨rfl, rfl⟩
  go_wp2_with fail
  go_ret
  exact ⟨rfl, rfl⟩

theorem add_comm' (a b : Int) : PSpan.add b a = PSpan.add a b := by
  unfold PSpan.add; rw [Int.add_comm b a]; split <;> split <;> first | rfl | (exfalso; omega)
theorem add_some {a b x : Int} (h : PSpan.add a b = (x, true)) : x = a + b ∧ PSpan.sub x b = (a, true) := by
  unfold PSpan.add at h
  split at h
  · rename_i hc
    obtain ⟨ha, hb⟩ := hc
    unfold PSpan.ans at h
    split at h
    · rename_i ht
      simp only [Prod.mk.injEq, and_true] at h
      subst h
      refine ⟨rfl, ?_⟩
      have : a + b - b = a := by omega
      unfold PSpan.sub
      rw [if_pos ⟨ht, hb⟩, this, PSpan.ans_in ha.1 ha.2]
    · simp at h
  · simp at h
theorem add_none {a b x : Int} (h : PSpan.add a b = (x, false)) : x = 0 := by
  unfold PSpan.add at h
  split at h
  · unfold PSpan.ans at h
    split at h
    · simp at h
    · simp only [Prod.mk.injEq, and_true] at h; exact h.symm
  · simp only [Prod.mk.injEq, and_true] at h; exact h.symm

set_option maxHeartbeats 1000000 in
set_option maxRecDepth 100000 in
theorem SpanRound_w (w : World) (a b : Int) :
    Calls Try.prog 4 #[.int .i64 a, .int .i64 b] w fun e w' => e = .returned (.bool true) ∧ w = w' := by
  obtain ⟨⟨x, t⟩, e1⟩ : ∃ x, PSpan.add a b = x := ⟨_, rfl⟩
  have H1 := Lib.hid e1
  have H2 := Lib.hid ((add_comm' a b).trans e1)
  cases t
  · have := add_none e1
    subst this
    clear e1
    go_enter Try.func4, Try.ntmps4
    go_wp2_with fail
    refine (begun_c w).mono ?_
    rintro e w' ⟨rfl, rfl⟩
    go_wp2_with fail
    refine (add_c w a b).mono ?_
    rw [H1.out]
    rintro e w' ⟨rfl, rfl⟩
    go_wp2_with fail
    refine (add_c w b a).mono ?_
    rw [H2.out]
    rintro e w' ⟨rfl, rfl⟩
    go_wp2_with fail
    go_ret
    exact ⟨rfl, rfl⟩
  · obtain ⟨hx, hs⟩ := add_some e1
    clear e1 hx
    have H3 := Lib.hid hs; clear hs
    go_enter Try.func4, Try.ntmps4
    go_wp2_with fail
    refine (begun_c w).mono ?_
    rintro e w' ⟨rfl, rfl⟩
    go_wp2_with fail
    refine (add_c w a b).mono ?_
    rw [H1.out]
    rintro e w' ⟨rfl, rfl⟩
    go_wp2_with fail
    refine (add_c w b a).mono ?_
    rw [H2.out]
    rintro e w' ⟨rfl, rfl⟩
    go_wp2_with fail
    refine (sub_c w x b).mono ?_
    rw [H3.out]
    rintro e w' ⟨rfl, rfl⟩
    go_wp2_with fail
    go_ret
    exact ⟨rfl, rfl⟩

set_option maxHeartbeats 1000000 in
set_option maxRecDepth 100000 in
theorem SpanWithin_w (w : World) (a d : Int) :
    Calls Try.prog 5 #[.int .i64 a, .int .i64 d] w fun e w' => e = .returned (.bool true) ∧ w = w' := by
  by_cases h0 : a < 0
  · go_enter Try.func5, Try.ntmps5
    go_wp2_with fail
    refine (begun_c w).mono ?_
    rintro e w' ⟨rfl, rfl⟩
    go_wp2_with fail
    go_ret
    exact ⟨rfl, rfl⟩
  by_cases h1 : 274877906944 < a
  · go_enter Try.func5, Try.ntmps5
    go_wp2_with fail
    refine (begun_c w).mono ?_
    rintro e w' ⟨rfl, rfl⟩
    go_wp2_with fail
    go_ret
    exact ⟨rfl, rfl⟩
  by_cases h2 : d < 0
  · go_enter Try.func5, Try.ntmps5
    go_wp2_with fail
    refine (begun_c w).mono ?_
    rintro e w' ⟨rfl, rfl⟩
    go_wp2_with fail
    go_ret
    exact ⟨rfl, rfl⟩
  by_cases h3 : 500000 < d
  · go_enter Try.func5, Try.ntmps5
    go_wp2_with fail
    refine (begun_c w).mono ?_
    rintro e w' ⟨rfl, rfl⟩
    go_wp2_with fail
    go_ret
    exact ⟨rfl, rfl⟩
  have hk : 0 ≤ a ∧ a ≤ 274877906944 ∧ 0 ≤ d ∧ d ≤ 500000 := by omega
  have H1 := Lib.hid (PSpan.most_in hk)
  have H2 := Lib.hid (PSpan.least_in (a := a) (d := d) (by omega))
  obtain ⟨u1, u2⟩ := PSpan.up_in hk
  obtain ⟨v1, v2⟩ := PSpan.dn_in (a := a) (d := d) (by omega)
  have hz : d = 0 → PSpan.up a (1000000 + d) (1000000 - d) = a ∧ PSpan.dn a (1000000 - d) (1000000 + d) = a := by rintro rfl; exact PSpan.none a
  generalize PSpan.up a (1000000 + d) (1000000 - d) = p at *
  generalize PSpan.dn a (1000000 - d) (1000000 + d) = q at *
  by_cases hd : d = 0
  · obtain ⟨e1, e2⟩ := hz hd
    subst hd
    clear hz
    subst e1
    subst e2
    clear hk
    go_enter Try.func5, Try.ntmps5
    go_wp2_with fail
    refine (begun_c w).mono ?_
    rintro e w' ⟨rfl, rfl⟩
    go_wp2_with fail
    refine (Most_c w q 0).mono ?_
    rw [H1.out]
    rintro e w' ⟨rfl, rfl⟩
    go_wp2_with fail
    refine (Least_c w q 0).mono ?_
    rw [H2.out]
    rintro e w' ⟨rfl, rfl⟩
    go_wp2_with fail
    go_ret
    exact ⟨rfl, rfl⟩
  · have t1 : (d != 0) = true := by simp [hd]
    clear hz hk
    go_enter Try.func5, Try.ntmps5
    go_wp2_with fail
    refine (begun_c w).mono ?_
    rintro e w' ⟨rfl, rfl⟩
    go_wp2_with fail
    refine (Most_c w a d).mono ?_
    rw [H1.out]
    rintro e w' ⟨rfl, rfl⟩
    go_wp2_with fail
    refine (Least_c w a d).mono ?_
    rw [H2.out]
    rintro e w' ⟨rfl, rfl⟩
    go_wp2_with fail
    go_ret
    exact ⟨rfl, rfl⟩

set_option maxHeartbeats 1000000 in
set_option maxRecDepth 100000 in
theorem SpanBack_w (w : World) (a d : Int) :
    Calls Try.prog 6 #[.int .i64 a, .int .i64 d] w fun e w' => e = .returned (.bool true) ∧ w = w' := by
  by_cases h0 : a < 0
  · go_enter Try.func6, Try.ntmps6
    go_wp2_with fail
    refine (begun_c w).mono ?_
    rintro e w' ⟨rfl, rfl⟩
    go_wp2_with fail
    go_ret
    exact ⟨rfl, rfl⟩
  by_cases h1 : 274877906944 < a
  · go_enter Try.func6, Try.ntmps6
    go_wp2_with fail
    refine (begun_c w).mono ?_
    rintro e w' ⟨rfl, rfl⟩
    go_wp2_with fail
    go_ret
    exact ⟨rfl, rfl⟩
  by_cases h2 : d < 0
  · go_enter Try.func6, Try.ntmps6
    go_wp2_with fail
    refine (begun_c w).mono ?_
    rintro e w' ⟨rfl, rfl⟩
    go_wp2_with fail
    go_ret
    exact ⟨rfl, rfl⟩
  by_cases h3 : 500000 < d
  · go_enter Try.func6, Try.ntmps6
    go_wp2_with fail
    refine (begun_c w).mono ?_
    rintro e w' ⟨rfl, rfl⟩
    go_wp2_with fail
    go_ret
    exact ⟨rfl, rfl⟩
  have hk : 0 ≤ a ∧ a ≤ 274877906944 ∧ 0 ≤ d ∧ d ≤ 500000 := by omega
  obtain ⟨u1, u2⟩ := PSpan.up_in hk
  obtain ⟨v1, v2⟩ := PSpan.dn_in (a := a) (d := d) (by omega)
  have H1 := Lib.hid (PSpan.most_in hk)
  have H2 := Lib.hid (PSpan.least_in (a := PSpan.up a (1000000 + d) (1000000 - d)) (d := d) (by omega))
  have H3 := Lib.hid (PSpan.least_in (a := a) (d := d) (by omega))
  have H4 := Lib.hid (PSpan.most_in (a := PSpan.dn a (1000000 - d) (1000000 + d)) (d := d) (by omega))
  have b1 := PSpan.back_up hk
  have b2 := PSpan.back_dn hk
  generalize PSpan.up a (1000000 + d) (1000000 - d) = p at *
  generalize PSpan.dn a (1000000 - d) (1000000 + d) = r at *
  generalize PSpan.dn p (1000000 - d) (1000000 + d) = q at *
  generalize PSpan.up r (1000000 + d) (1000000 - d) = s at *
  clear hk
  go_enter Try.func6, Try.ntmps6
  go_wp2_with fail
  refine (begun_c w).mono ?_
  rintro e w' ⟨rfl, rfl⟩
  go_wp2_with fail
  refine (Most_c w a d).mono ?_
  rw [H1.out]
  rintro e w' ⟨rfl, rfl⟩
  go_wp2_with fail
  refine (Least_c w p d).mono ?_
  rw [H2.out]
  rintro e w' ⟨rfl, rfl⟩
  go_wp2_with fail
  refine (Least_c w a d).mono ?_
  rw [H3.out]
  rintro e w' ⟨rfl, rfl⟩
  go_wp2_with fail
  refine (Most_c w r d).mono ?_
  rw [H4.out]
  rintro e w' ⟨rfl, rfl⟩
  go_wp2_with fail
  go_ret
  exact ⟨rfl, rfl⟩

set_option maxHeartbeats 1000000 in
set_option maxRecDepth 100000 in
theorem SpanGrows_w (w : World) (a b d m : Int) :
    Calls Try.prog 7 #[.int .i64 a, .int .i64 b, .int .i64 d, .int .i64 m] w fun e w' => e = .returned (.bool true) ∧ w = w' := by
  by_cases h0 : a < 0
  · go_enter Try.func7, Try.ntmps7
    go_wp2_with fail
    refine (begun_c w).mono ?_
    rintro e w' ⟨rfl, rfl⟩
    go_wp2_with fail
    go_ret
    exact ⟨rfl, rfl⟩
  by_cases h1 : b < a
  · go_enter Try.func7, Try.ntmps7
    go_wp2_with fail
    refine (begun_c w).mono ?_
    rintro e w' ⟨rfl, rfl⟩
    go_wp2_with fail
    go_ret
    exact ⟨rfl, rfl⟩
  by_cases h2 : 274877906944 < b
  · go_enter Try.func7, Try.ntmps7
    go_wp2_with fail
    refine (begun_c w).mono ?_
    rintro e w' ⟨rfl, rfl⟩
    go_wp2_with fail
    go_ret
    exact ⟨rfl, rfl⟩
  by_cases h3 : d < 0
  · go_enter Try.func7, Try.ntmps7
    go_wp2_with fail
    refine (begun_c w).mono ?_
    rintro e w' ⟨rfl, rfl⟩
    go_wp2_with fail
    go_ret
    exact ⟨rfl, rfl⟩
  by_cases h4 : m < d
  · go_enter Try.func7, Try.ntmps7
    go_wp2_with fail
    refine (begun_c w).mono ?_
    rintro e w' ⟨rfl, rfl⟩
    go_wp2_with fail
    go_ret
    exact ⟨rfl, rfl⟩
  by_cases h5 : 500000 < m
  · go_enter Try.func7, Try.ntmps7
    go_wp2_with fail
    refine (begun_c w).mono ?_
    rintro e w' ⟨rfl, rfl⟩
    go_wp2_with fail
    go_ret
    exact ⟨rfl, rfl⟩
  have H1 := Lib.hid (PSpan.most_in (a := a) (d := d) (by omega))
  have H2 := Lib.hid (PSpan.most_in (a := b) (d := d) (by omega))
  have H3 := Lib.hid (PSpan.most_in (a := a) (d := m) (by omega))
  have H4 := Lib.hid (PSpan.least_in (a := a) (d := d) (by omega))
  have H5 := Lib.hid (PSpan.least_in (a := b) (d := d) (by omega))
  have H6 := Lib.hid (PSpan.least_in (a := a) (d := m) (by omega))
  have b1 := PSpan.up_time (a := a) (b := b) (d := d) (by omega)
  have b2 := PSpan.up_rate (a := a) (d := d) (e := m) (by omega) (by omega)
  have b3 := PSpan.dn_time (a := a) (b := b) (d := d) (by omega)
  have b4 := PSpan.dn_rate (a := a) (d := d) (e := m) (by omega) (by omega)
  generalize PSpan.up a (1000000 + d) (1000000 - d) = p at *
  generalize PSpan.up b (1000000 + d) (1000000 - d) = q at *
  generalize PSpan.up a (1000000 + m) (1000000 - m) = r at *
  generalize PSpan.dn a (1000000 - d) (1000000 + d) = s at *
  generalize PSpan.dn b (1000000 - d) (1000000 + d) = t at *
  generalize PSpan.dn a (1000000 - m) (1000000 + m) = u at *
  go_enter Try.func7, Try.ntmps7
  go_wp2_with fail
  refine (begun_c w).mono ?_
  rintro e w' ⟨rfl, rfl⟩
  go_wp2_with fail
  refine (Most_c w a d).mono ?_
  rw [H1.out]
  rintro e w' ⟨rfl, rfl⟩
  go_wp2_with fail
  refine (Most_c w b d).mono ?_
  rw [H2.out]
  rintro e w' ⟨rfl, rfl⟩
  go_wp2_with fail
  refine (Most_c w a m).mono ?_
  rw [H3.out]
  rintro e w' ⟨rfl, rfl⟩
  go_wp2_with fail
  refine (Least_c w a d).mono ?_
  rw [H4.out]
  rintro e w' ⟨rfl, rfl⟩
  go_wp2_with fail
  refine (Least_c w b d).mono ?_
  rw [H5.out]
  rintro e w' ⟨rfl, rfl⟩
  go_wp2_with fail
  refine (Least_c w a m).mono ?_
  rw [H6.out]
  rintro e w' ⟨rfl, rfl⟩
  go_wp2_with fail
  go_ret
  exact ⟨rfl, rfl⟩

end Go.Proofs.Ytjhfikebnofapaa
