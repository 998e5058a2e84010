/- The walks of TeamMost, TeamMeet, TeamDecider. -/
import Derived.Test.YtgmjajfdliieoaaTeamC
import Derived.Test.YtgmjajfdliieoaaHeld
namespace Go.Proofs.Ytgmjajfdliieoaa
open Go.RowKit

set_option maxRecDepth 100000 in
theorem TeamMost_w (w : World) (t n : Int) (h1 : -9223372036854775808 ≤ t) (h2 : t ≤ 9223372036854775807) :
    Calls Try.prog 5 #[.int .i64 t, .int .i64 n] w fun e w' => e = .returned (.bool true) ∧ Below w.heap.size w w' := by
  go_enter Try.func5, Try.ntmps5
  go_wp2_with fail
  refine (begun_c w).mono ?_
  rintro e w1 ⟨rfl, hb1⟩
  have hsz := hb1.size
  go_wp2_with fail
  refine (May_c w1 t n h1 h2).mono ?_
  rintro e w' ⟨rfl, rfl⟩
  go_wp2_with fail
  refine (rMayTeam_c w1 t n).mono ?_
  rintro e w' ⟨rfl, rfl⟩
  go_wp2_with fail
  refine (Most_c w1 t n h1 h2).mono ?_
  rintro e w' ⟨rfl, rfl⟩
  go_wp2_with fail
  refine (rMost_c w1 t n).mono ?_
  rintro e w' ⟨rfl, hb2⟩
  go_wp2_with fail
  go_ret
  exact ⟨rfl, hb1.trans (hb2.mono hsz)⟩

set_option maxRecDepth 100000 in
theorem TeamMeet_w (w : World) (a b n : Int) (h1 : -9223372036854775808 ≤ a) (h2 : a ≤ 9223372036854775807) (h3 : -9223372036854775808 ≤ b) (h4 : b ≤ 9223372036854775807) :
    Calls Try.prog 6 #[.int .i64 a, .int .i64 b, .int .i64 n] w fun e w' => e = .returned (.bool true) ∧ Below w.heap.size w w' := by
  cases ha : PTeam.most a n
  · go_enter Try.func6, Try.ntmps6
    go_wp2_with fail
    refine (begun_c w).mono ?_
    rintro e w1 ⟨rfl, hb1⟩
    go_wp2_with fail
    refine (Most_c w1 a n h1 h2).mono ?_
    rw [ha]
    rintro e w' ⟨rfl, rfl⟩
    go_wp2_with fail
    go_ret
    exact ⟨rfl, hb1⟩
  cases hb : PTeam.most b n
  · go_enter Try.func6, Try.ntmps6
    go_wp2_with fail
    refine (begun_c w).mono ?_
    rintro e w1 ⟨rfl, hb1⟩
    go_wp2_with fail
    refine (Most_c w1 a n h1 h2).mono ?_
    rw [ha]
    rintro e w' ⟨rfl, rfl⟩
    go_wp2_with fail
    refine (Most_c w1 b n h3 h4).mono ?_
    rw [hb]
    rintro e w' ⟨rfl, rfl⟩
    go_wp2_with fail
    go_ret
    exact ⟨rfl, hb1⟩
  have hma : PTeam.may a n = true := by unfold PTeam.most at ha; exact (Bool.and_eq_true_iff.1 ha).1
  have hmb : PTeam.may b n = true := by unfold PTeam.most at hb; exact (Bool.and_eq_true_iff.1 hb).1
  obtain ⟨-, -, h5, h6⟩ := may_lt hma
  obtain ⟨-, -, h7, h8⟩ := may_lt hmb
  obtain ⟨x, rfl⟩ := Int.eq_ofNat_of_zero_le h5
  obtain ⟨y, rfl⟩ := Int.eq_ofNat_of_zero_le h7
  have hpos := PTeam.meet_pos x y n ha hb
  have HA := Lib.hid ha; have HB := Lib.hid hb; clear ha hb hma hmb
  have hxy : x &&& y < 128 := PTeam.and_lt y (by omega)
  go_enter Try.func6, Try.ntmps6
  go_wp2_with fail
  refine (begun_c w).mono ?_
  rintro e w1 ⟨rfl, hb1⟩
  go_wp2_with fail
  refine (Most_c w1 x n h1 h2).mono ?_
  rw [HA.out]
  rintro e w' ⟨rfl, rfl⟩
  go_wp2_with fail
  refine (Most_c w1 y n h3 h4).mono ?_
  rw [HB.out]
  rintro e w' ⟨rfl, rfl⟩
  go_wp2_with fail
  refine (And_c w1 x y (by omega) (by omega)).mono ?_
  rintro e w' ⟨rfl, rfl⟩
  go_wp2_with fail
  refine (Len_c w1 (x &&& y) hxy).mono ?_
  rintro e w' ⟨rfl, rfl⟩
  go_wp2_with fail
  go_ret
  exact ⟨rfl, hb1⟩

theorem decider_next {v n : Int} (hv : 1 ≤ v) (h3 : 3 ≤ n) (h7 : n ≤ 7) : PTeam.decider (v + 1) n = PTeam.decider v n % n + 1 ∧ PTeam.decider (v + n) n = PTeam.decider v n ∧ 1 ≤ PTeam.decider v n ∧ PTeam.decider v n ≤ n := by
  unfold PTeam.decider
  rw [if_neg (by omega), if_neg (by omega), if_neg (by omega)]
  have hc : n = 3 ∨ n = 4 ∨ n = 5 ∨ n = 6 ∨ n = 7 := by omega
  rcases hc with rfl | rfl | rfl | rfl | rfl <;> omega

set_option maxRecDepth 100000 in
theorem TeamDecider_w (w : World) (v n : Int) (h1 : -9223372036854775808 ≤ v) (h2 : v ≤ 9223372036854775807) :
    Calls Try.prog 7 #[.int .i64 v, .int .i64 n] w fun e w' => e = .returned (.bool true) ∧ Below w.heap.size w w' := by
  by_cases hok : v < 1 ∨ n < 3 ∨ 7 < n
  · have e0 : PTeam.decider v n = 0 := by unfold PTeam.decider; rw [if_pos hok]
    have E := Lib.hid e0; clear e0 hok
    go_enter Try.func7, Try.ntmps7
    go_wp2_with fail
    refine (begun_c w).mono ?_
    rintro e w1 ⟨rfl, hb1⟩
    go_wp2_with fail
    refine (Decider_c w1 v n h1 h2).mono ?_
    rw [E.out]
    rintro e w' ⟨rfl, rfl⟩
    go_wp2_with fail
    refine (rDecider_c w1 v n h1 h2).mono ?_
    rw [E.out]
    rintro e w' ⟨rfl, rfl⟩
    go_wp2_with fail
    go_ret
    exact ⟨rfl, hb1⟩
  · have g1 : 1 ≤ v := by omega
    have g3 : 3 ≤ n := by omega
    have g7 : n ≤ 7 := by omega
    obtain ⟨f1, f2, d1, d2⟩ := decider_next g1 g3 g7
    have hd := PTeam.decider v n
    obtain ⟨d, hd⟩ : ∃ d, PTeam.decider v n = d := ⟨_, rfl⟩
    rw [hd] at f1 f2 d1 d2
    have E := Lib.hid hd; have F1 := Lib.hid f1; have F2 := Lib.hid f2; clear hd f1 f2 hok
    have hn0 : n ≠ 0 := by omega
    have hd0 : (d == 0) = false := by simp; omega
    have q1 := Int.emod_nonneg d hn0
    have q2 := Int.emod_lt_of_pos d (show 0 < n by omega)
    by_cases hv : 1099511627776 < v
    · go_enter Try.func7, Try.ntmps7
      go_wp2_with fail
      refine (begun_c w).mono ?_
      rintro e w1 ⟨rfl, hb1⟩
      go_wp2_with fail
      refine (Decider_c w1 v n h1 h2).mono ?_
      rw [E.out]
      rintro e w' ⟨rfl, rfl⟩
      go_wp2_with fail
      refine (rDecider_c w1 v n h1 h2).mono ?_
      rw [E.out]
      rintro e w' ⟨rfl, rfl⟩
      go_wp2_with fail
      go_ret
      exact ⟨rfl, hb1⟩
    · go_enter Try.func7, Try.ntmps7
      go_wp2_with fail
      refine (begun_c w).mono ?_
      rintro e w1 ⟨rfl, hb1⟩
      go_wp2_with fail
      refine (Decider_c w1 v n h1 h2).mono ?_
      rw [E.out]
      rintro e w' ⟨rfl, rfl⟩
      go_wp2_with fail
      refine (rDecider_c w1 v n h1 h2).mono ?_
      rw [E.out]
      rintro e w' ⟨rfl, rfl⟩
      go_wp2_with fail
      generalize w1 = W at *
-- REGION curfew/curfewlaw3.TeamDecider 9 decider9 6
      refine Hb.begin ?_
      refine Hb.take (v := .int .i64 v) 0 35 rfl ?_ (fun _ _ => rfl)
      refine Hb.take (v := .int .i64 (v + 1)) 1 36 rfl ?_ (fun w' hw' => by go_simp; first | done | rfl | omega | exact wrap_in (by omega) (by omega) | exact Int.tmod_eq_emod_of_nonneg (by omega) | exact Int.tdiv_eq_ediv_of_nonneg (by omega) | (simp; omega))
      refine Hb.take (v := .int .i64 n) 2 37 rfl ?_ (fun _ _ => rfl)
      refine Hb.take (v := .int .i64 d) 4 39 rfl ?_ (fun _ _ => rfl)
      refine Hb.take (v := .int .i64 n) 5 40 rfl ?_ (fun _ _ => rfl)
      refine Hb.take (v := .int .i64 (d % n)) 6 41 rfl ?_ (fun w' hw' => by go_simp; first | done | rfl | omega | exact wrap_in (by omega) (by omega) | exact Int.tmod_eq_emod_of_nonneg (by omega) | exact Int.tdiv_eq_ediv_of_nonneg (by omega) | (simp; omega))
      refine Hb.take (v := .int .i64 (d % n + 1)) 7 42 rfl ?_ (fun w' hw' => by go_simp; first | done | rfl | omega | exact wrap_in (by omega) (by omega) | exact Int.tmod_eq_emod_of_nonneg (by omega) | exact Int.tdiv_eq_ediv_of_nonneg (by omega) | (simp; omega))
      refine Hb.call (f := 24) (args := #[.int .i64 (v + 1), .int .i64 n]) 3 38 rfl ?_ (run_callf Try.func24 (by kernel_rfl) (by kernel_rfl) (by simp only [List.map_toArray, List.map_cons, List.map_nil]; rfl))
      refine (Decider_c W.drew (v + 1) n (by omega) (by omega)).mono ?_
      rw [F1.out]
      rintro e w1 ⟨rfl, rfl⟩
      refine Hb.back (Below.refl _ _) (Nat.le_refl _) ?_
      refine Hb.take (v := .bool true) 8 43 rfl ?_ (fun w' hw' => by go_simp; first | done | rfl | omega | exact wrap_in (by omega) (by omega) | exact Int.tmod_eq_emod_of_nonneg (by omega) | exact Int.tdiv_eq_ediv_of_nonneg (by omega) | (simp; omega))
      refine Hb.take (v := .bool true) 9 44 rfl ?_ (fun _ _ => rfl)
      refine Hb.take (v := .int .i64 v) 10 45 rfl ?_ (fun _ _ => rfl)
      refine Hb.take (v := .int .i64 n) 11 46 rfl ?_ (fun _ _ => rfl)
      refine Hb.take (v := .int .i64 (v + n)) 12 47 rfl ?_ (fun w' hw' => by go_simp; first | done | rfl | omega | exact wrap_in (by omega) (by omega) | exact Int.tmod_eq_emod_of_nonneg (by omega) | exact Int.tdiv_eq_ediv_of_nonneg (by omega) | (simp; omega))
      refine Hb.take (v := .int .i64 n) 13 48 rfl ?_ (fun _ _ => rfl)
      refine Hb.take (v := .int .i64 d) 15 50 rfl ?_ (fun _ _ => rfl)
      refine Hb.call (f := 24) (args := #[.int .i64 (v + n), .int .i64 n]) 14 49 rfl ?_ (run_callf Try.func24 (by kernel_rfl) (by kernel_rfl) (by simp only [List.map_toArray, List.map_cons, List.map_nil]; rfl))
      refine (Decider_c W.drew (v + n) n (by omega) (by omega)).mono ?_
      rw [F2.out]
      rintro e w1 ⟨rfl, rfl⟩
      refine Hb.back (Below.refl _ _) (Nat.le_refl _) ?_
      refine Hb.take (v := .bool true) 16 51 rfl ?_ (fun w' hw' => by go_simp; first | done | rfl | omega | exact wrap_in (by omega) (by omega) | exact Int.tmod_eq_emod_of_nonneg (by omega) | exact Int.tdiv_eq_ediv_of_nonneg (by omega) | (simp; omega))
      refine Hb.take (v := .bool true) 17 52 rfl ?_ (fun _ _ => rfl)
      refine Hb.take (v := .bool true) 18 4 rfl ?_ (fun _ _ => rfl)
      refine Hb.done ?_
-- END
      go_wp2
      go_ret
      exact ⟨rfl, hb1.drew⟩

end Go.Proofs.Ytgmjajfdliieoaa
