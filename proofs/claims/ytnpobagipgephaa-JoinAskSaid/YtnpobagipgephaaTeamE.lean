/- Deciders. -/
import Derived.Test.YtnpobagipgephaaTeamA
namespace Go.Proofs.Ytnpobagipgephaa
open Go.RowKit

theorem tDecider_c (w : World) (v n : Int) (h1 : -9223372036854775808 ≤ v) (h2 : v ≤ 9223372036854775807) :
    Calls Try.prog 24 #[.int .i64 v, .int .i64 n] w fun e w' => e = .returned (.int .i64 (PTeam.decider v n)) ∧ w = w' := by
  by_cases hv : v < 1
  · have e0 : PTeam.decider v n = 0 := by unfold PTeam.decider; rw [if_pos (by omega)]
    have E := Lib.hid e0; clear e0
    go_enter Try.func24, Try.ntmps24
    go_wp2
    go_ret
    exact ⟨by rw [E.out]; rfl, rfl⟩
  cases hb : okB n
  · have hb' := of_decide_eq_false hb
    have e0 : PTeam.decider v n = 0 := by unfold PTeam.decider; rw [if_pos (by omega)]
    have E := Lib.hid e0; clear e0
    go_enter Try.func24, Try.ntmps24
    go_wp2_with fail
    refine (mayCount_c w n).mono ?_
    rintro e w' ⟨rfl, rfl⟩
    go_wp2_with fail
    go_ret
    exact ⟨by rw [E.out]; rfl, rfl⟩
  · have hb' := of_decide_eq_true hb
    have e0 : PTeam.decider v n = 1 + (v - 1) % n := by unfold PTeam.decider; rw [if_neg (by omega)]
    have E := Lib.hid e0; clear e0
    have hn0 : n ≠ 0 := by omega
    have q1 := Int.emod_nonneg (v - 1) hn0
    have q2 := Int.emod_lt_of_pos (v - 1) (show 0 < n by omega)
    go_enter Try.func24, Try.ntmps24
    go_wp2_with fail
    refine (mayCount_c w n).mono ?_
    rintro e w' ⟨rfl, rfl⟩
    obtain ⟨h3, h7⟩ := hb'
    go_wp2_with fail
    go_ret
    exact ⟨by rw [E.out]; rfl, rfl⟩

end Go.Proofs.Ytnpobagipgephaa
