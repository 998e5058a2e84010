/- The walks of TeamSets, TeamCount, TeamTurn. -/
import Derived.Test.YtgmjajfdliieoaaTeamC
import Derived.Test.YtgmjajfdliieoaaHeld
namespace Go.Proofs.Ytgmjajfdliieoaa
open Go.RowKit

set_option maxHeartbeats 2000000 in
set_option maxRecDepth 100000 in
theorem TeamSets_w (w : World) (a0 b0 id : Int) :
    Calls Try.prog 4 #[.int .i64 a0, .int .i64 b0, .int .i64 id] w fun e w' => e = .returned (.bool true) ∧ Below w.heap.size w w' := by
  obtain ⟨a, ha⟩ : ∃ a : Nat, a0 % 128 = a := ⟨(a0 % 128).toNat, by omega⟩
  obtain ⟨b, hb⟩ : ∃ b : Nat, b0 % 128 = b := ⟨(b0 % 128).toNat, by omega⟩
  have hat : a < 128 := by omega
  have hbt : b < 128 := by omega
  have e1 : bits .and .i64 a0 127 = (a : Int) := by rw [i64_and127, ha]
  have e2 : bits .and .i64 b0 127 = (b : Int) := by rw [i64_and127, hb]
  clear ha hb
  go_enter Try.func4, Try.ntmps4
  go_wp2_with fail
  refine (begun_c w).mono ?_
  rintro e w1 ⟨rfl, hb1⟩
  go_wp2_with fail
  clear e1 e2
  have hwa := PTeam.wth_lt hat id
  have hoa := PTeam.wout_lt hat id
  have hab := PTeam.and_lt b hat
  have W := fun i h1 h7 => PTeam.has_wth a hat id i h1 h7
  have O := fun i h1 h7 => PTeam.has_wout a hat id i h1 h7
  have N := fun i h1 h7 => PTeam.has_and a b hat hbt i h1 h7
  have HW := Lib.hid W; have HO := Lib.hid O; have HN := Lib.hid N; clear W O N
  go_loopw [10, 11, 12] (fun s10 _ _ wr => ∃ (k : Nat), k ≤ 7 ∧ s10 = .int .i64 ((k : Int) + 1) ∧ Below w.heap.size w wr) (fun s10 _ _ _ => 8 - (intOf s10).toNat)
  case atStart => exact ⟨0, by omega, rfl, hb1⟩
  case round =>
    obtain ⟨k, hk, rfl, hbr⟩ := hrel
    have hsz := hbr.size
    by_cases hlt : k < 7
    · have W := HW.out ((k : Int) + 1) (by omega) (by omega)
      have O := HO.out ((k : Int) + 1) (by omega) (by omega)
      have N := HN.out ((k : Int) + 1) (by omega) (by omega)
      by_cases he : (k : Int) + 1 = id
      all_goals cases hx : PTeam.has a ((k : Int) + 1)
      all_goals cases hy : PTeam.has b ((k : Int) + 1)
      all_goals
        rw [hx] at W O N
        rw [hy] at N
        simp only [he, decide_true, decide_false, ne_eq, not_true_eq_false, not_false_eq_true, Bool.or_true, Bool.or_false, Bool.and_true, Bool.and_false] at W O N
        have HW := Lib.hid W; have HO := Lib.hid O; have HN := Lib.hid N; have HX := Lib.hid hx; have HY := Lib.hid hy
        clear W O N hx hy
        first
          | subst he
          | (have he1 : (((k : Int) + 1) == id) = false := by simpa using he
             have he2 : (((k : Int) + 1) != id) = true := by simpa using he)
        go_wp2_with fail
        refine (rHas_c wr a _ hat).mono ?_
        rw [HX.out]
        rintro e w2 ⟨rfl, hb2⟩
        have hsz2 := hb2.size
        go_wp2_with fail
        refine (rHas_c w2 b _ hbt).mono ?_
        rw [HY.out]
        rintro e w3 ⟨rfl, hb3⟩
        have hb4 := hbr.trans ((hb2.trans (hb3.mono hsz2)).mono hsz)
        clear hb2 hb3
        go_wp2_with fail
        refine (Has_c w3 a _ hat).mono ?_
        rw [HX.out]
        rintro e w' ⟨rfl, rfl⟩
        go_wp2_with fail
        refine (With_c w3 a _ hat).mono ?_
        rintro e w' ⟨rfl, rfl⟩
        go_wp2_with fail
        refine (Has_c w3 _ _ hwa).mono ?_
        rw [HW.out]
        rintro e w' ⟨rfl, rfl⟩
        go_wp2_with fail
        refine (Without_c w3 a _ hat).mono ?_
        rintro e w' ⟨rfl, rfl⟩
        go_wp2_with fail
        refine (Has_c w3 _ _ hoa).mono ?_
        rw [HO.out]
        rintro e w' ⟨rfl, rfl⟩
        go_wp2_with fail
        refine (And_c w3 a b hat hbt).mono ?_
        rintro e w' ⟨rfl, rfl⟩
        go_wp2_with fail
        refine (Has_c w3 _ _ hab).mono ?_
        rw [HN.out]
        rintro e w' ⟨rfl, rfl⟩
        go_wp2_with fail
        go_roundw
        case rel => exact ⟨k + 1, by omega, by go_num, hb4⟩
        case measure => simp [intOf]; omega
    · obtain rfl : k = 7 := by omega
      go_wp2
      go_ret
      exact ⟨rfl, hbr⟩

set_option maxRecDepth 100000 in
theorem TeamCount_w (w : World) (a0 id : Int) :
    Calls Try.prog 9 #[.int .i64 a0, .int .i64 id] w fun e w' => e = .returned (.bool true) ∧ Below w.heap.size w w' := by
  obtain ⟨t, ha⟩ : ∃ a : Nat, a0 % 128 = a := ⟨(a0 % 128).toNat, by omega⟩
  have ht : t < 128 := by omega
  have e1 : bits .and .i64 a0 127 = (t : Int) := by rw [i64_and127, ha]
  clear ha
  have hu := PTeam.wth_lt ht id
  have hv := PTeam.wout_lt ht id
  have hl := PTeam.cnt_le t
  have cu := PTeam.cnt_wth t ht id
  have cv := PTeam.cnt_wout t ht id
  have tu := PTeam.wth_twice t id
  have tv := PTeam.wout_twice t id
  have TU := Lib.hid tu; have TV := Lib.hid tv; clear tu tv
  by_cases hin : 1 ≤ id ∧ id ≤ 7
  · obtain ⟨g1, g7⟩ := hin
    have hd : decide (1 ≤ id ∧ id ≤ 7) = true := by simp [g1, g7]
    rw [hd, Bool.true_and] at cu
    clear hd
    cases hh : PTeam.has t id
    all_goals
      rw [hh] at cu cv
      simp only [Bool.not_false, Bool.not_true, if_true, if_false, Bool.false_eq_true] at cu cv
      have CU := Lib.hid cu; have CV := Lib.hid cv; have HH := Lib.hid hh; clear cu cv hh
      go_enter Try.func9, Try.ntmps9
      go_wp2_with fail
      refine (begun_c w).mono ?_
      rintro e w1 ⟨rfl, hb1⟩
      go_wp2_with fail
      refine (With_c w1 t id ht).mono ?_
      rintro e w' ⟨rfl, rfl⟩
      go_wp2_with fail
      refine (Without_c w1 t id ht).mono ?_
      rintro e w' ⟨rfl, rfl⟩
      go_wp2_with fail
      refine (Len_c w1 t ht).mono ?_
      rintro e w' ⟨rfl, rfl⟩
      go_wp2_with fail
      refine (Len_c w1 t ht).mono ?_
      rintro e w' ⟨rfl, rfl⟩
      go_wp2_with fail
      refine (Has_c w1 t id ht).mono ?_
      rw [HH.out]
      rintro e w' ⟨rfl, rfl⟩
      go_wp2_with fail
      refine (Has_c w1 t id ht).mono ?_
      rw [HH.out]
      rintro e w' ⟨rfl, rfl⟩
      go_wp2_with fail
      refine (Len_c w1 _ hu).mono ?_
      rw [CU.out]
      rintro e w' ⟨rfl, rfl⟩
      go_wp2_with fail
      refine (Len_c w1 _ hv).mono ?_
      rw [CV.out]
      rintro e w' ⟨rfl, rfl⟩
      go_wp2_with fail
      refine (With_c w1 _ id hu).mono ?_
      rw [TU.out]
      rintro e w' ⟨rfl, rfl⟩
      go_wp2_with fail
      refine (Without_c w1 _ id hv).mono ?_
      rw [TV.out]
      rintro e w' ⟨rfl, rfl⟩
      go_wp2_with fail
      go_ret
      exact ⟨rfl, hb1⟩
  · have hout : id < 1 ∨ 7 < id := by omega
    have hh := PTeam.has_out t hout
    have wu := PTeam.wth_out t hout
    have wv := PTeam.wout_out t ht hout
    have HH := Lib.hid hh; have WU := Lib.hid wu; have WV := Lib.hid wv
    clear hh wu wv cu cv hin hu hv TU TV
    rcases hout with g | g
    all_goals
      go_enter Try.func9, Try.ntmps9
      go_wp2_with fail
      refine (begun_c w).mono ?_
      rintro e w1 ⟨rfl, hb1⟩
      go_wp2_with fail
      refine (With_c w1 t id ht).mono ?_
      rw [WU.out]
      rintro e w' ⟨rfl, rfl⟩
      go_wp2_with fail
      refine (Without_c w1 t id ht).mono ?_
      rw [WV.out]
      rintro e w' ⟨rfl, rfl⟩
      go_wp2_with fail
      refine (Len_c w1 t ht).mono ?_
      rintro e w' ⟨rfl, rfl⟩
      go_wp2_with fail
      refine (Len_c w1 t ht).mono ?_
      rintro e w' ⟨rfl, rfl⟩
      go_wp2_with fail
      refine (Has_c w1 t id ht).mono ?_
      rw [HH.out]
      rintro e w' ⟨rfl, rfl⟩
      go_wp2_with fail
      refine (Len_c w1 t ht).mono ?_
      rintro e w' ⟨rfl, rfl⟩
      go_wp2_with fail
      refine (Len_c w1 t ht).mono ?_
      rintro e w' ⟨rfl, rfl⟩
      go_wp2_with fail
      refine (With_c w1 t id ht).mono ?_
      rw [WU.out]
      rintro e w' ⟨rfl, rfl⟩
      go_wp2_with fail
      refine (Without_c w1 t id ht).mono ?_
      rw [WV.out]
      rintro e w' ⟨rfl, rfl⟩
      go_wp2_with fail
      go_ret
      exact ⟨rfl, hb1⟩

set_option maxRecDepth 100000 in
theorem TeamTurn_w (w : World) (v n : Int) :
    Calls Try.prog 8 #[.int .i64 v, .int .i64 n] w fun e w' => e = .returned (.bool true) ∧ Below w.heap.size w w' := by
  by_cases hout : n < 3 ∨ 7 < n ∨ v < 1 ∨ 1099511627776 < v
  · by_cases q1 : n < 3
    all_goals by_cases q2 : 7 < n
    all_goals by_cases q3 : v < 1
    all_goals by_cases q4 : 1099511627776 < v
    all_goals first | (exfalso; omega) | skip
    all_goals
      clear hout
      go_enter Try.func8, Try.ntmps8
      go_wp2_with fail
      refine (begun_c w).mono ?_
      rintro e w1 ⟨rfl, hb1⟩
      go_wp2_with fail
      go_ret
      exact ⟨rfl, hb1⟩
  · obtain ⟨m, rfl⟩ : ∃ m : Nat, n = m := ⟨n.toNat, by omega⟩
    have g3 : 3 ≤ m := by omega
    have g7 : m ≤ 7 := by omega
    have g1 : 1 ≤ v := by omega
    have gv : v ≤ 1099511627776 := by omega
    clear hout
    have hz := fun k => PTeam.turn_is v m k g1 g3 g7
    have q1 := Int.emod_nonneg (v - 1) (show (m : Int) ≠ 0 by omega)
    have q2 := Int.emod_lt_of_pos (v - 1) (show (0 : Int) < m by omega)
    obtain ⟨r, hr⟩ : ∃ r, ((v - 1) % m).toNat = r := ⟨_, rfl⟩
    have hrm : r < m := by omega
    rw [hr] at hz
    have HZ := Lib.hid hz
    have hall := PTeam.turn_all r m g3 g7 hrm
    have h0 : PTeam.decider v m = 1 + (((r + 0) % m : Nat) : Int) := by
      have := hz 0
      rwa [Int.natCast_zero, Int.add_zero] at this
    have hn : PTeam.decider (v + m) m = 1 + (((r + 0) % m : Nat) : Int) := by rw [hz m, Nat.add_zero, Nat.add_mod_right]
    have HA := Lib.hid hall; have H0 := Lib.hid h0; have HN := Lib.hid hn
    clear hz hr q1 q2 hall h0 hn
    go_enter Try.func8, Try.ntmps8
    go_wp2_with fail
    refine (begun_c w).mono ?_
    rintro e w1 ⟨rfl, hb1⟩
    go_wp2_with fail
    refine (Of_c w1 0 none 0 0 [] (Rd.nil _ _ _)).mono ?_
    rintro e w' ⟨rfl, rfl⟩
    go_wp2_with fail
    go_loop [6, 7, 8] (fun s6 s7 _ => ∃ k : Nat, k ≤ m ∧ s7 = .int .i64 k ∧ s6 = .int .i64 (PTeam.turn r m k : Nat)) (fun _ s7 _ => m - (intOf s7).toNat)
    case atStart => exact ⟨0, by omega, rfl, rfl⟩
    case round =>
      obtain ⟨k, hk, rfl, rfl⟩ := hrel
      have hT := PTeam.turn_lt r m k
      by_cases hlt : k < m
      · have hnew := PTeam.turn_new r m k g3 g7 hrm hlt
        have hsn := PTeam.turn_succ r m k
        have hd1 : ((r + k) % m : Nat) < m := Nat.mod_lt _ (by omega)
        have HW := Lib.hid hnew; have HS := Lib.hid hsn; clear hnew hsn
        go_wp2_with fail
        refine (Decider_c w1 (v + k) m (by omega) (by omega)).mono ?_
        rw [HZ.out k]
        generalize (r + k) % m = d at *
        rintro e w' ⟨rfl, rfl⟩
        go_wp2_with fail
        refine (Has_c w1 _ _ hT).mono ?_
        rw [HW.out]
        rintro e w' ⟨rfl, rfl⟩
        go_wp2_with fail
        refine (With_c w1 _ _ hT).mono ?_
        rw [← HS.out]
        rintro e w' ⟨rfl, rfl⟩
        go_wp2_with fail
        go_round
        case rel => exact ⟨k + 1, by omega, by go_num, rfl⟩
        case measure => simp [intOf]; omega
      · obtain rfl : k = m := by omega
        go_wp2_with fail
        refine (Len_c w1 _ hT).mono ?_
        rw [HA.out.1]
        rintro e w' ⟨rfl, rfl⟩
        go_wp2_with fail
        refine (Most_c w1 _ k (by omega) (by omega)).mono ?_
        rw [HA.out.2]
        rintro e w' ⟨rfl, rfl⟩
        go_wp2_with fail
        refine (Decider_c w1 (v + k) k (by omega) (by omega)).mono ?_
        rw [HN.out]
        rintro e w' ⟨rfl, rfl⟩
        go_wp2_with fail
        refine (Decider_c w1 v k (by omega) (by omega)).mono ?_
        rw [H0.out]
        rintro e w' ⟨rfl, rfl⟩
        go_wp2_with fail
        go_ret
        exact ⟨rfl, hb1⟩

end Go.Proofs.Ytgmjajfdliieoaa
