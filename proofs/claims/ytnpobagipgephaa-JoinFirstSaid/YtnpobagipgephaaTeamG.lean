/- The document's decider. -/
import Derived.Test.YtnpobagipgephaaTeamA
namespace Go.Proofs.Ytnpobagipgephaa
open Go.RowKit

theorem rtDecider_c (w : World) (v n : Int) (h1 : -9223372036854775808 ≤ v) (h2 : v ≤ 9223372036854775807) :
    Calls Try.prog 12 #[.int .i64 v, .int .i64 n] w fun e w' => e = .returned (.int .i64 (PTeam.decider v n)) ∧ w = w' := by
  by_cases hn : v < 1 ∨ n < 3 ∨ 7 < n
  · have e0 : PTeam.decider v n = 0 := by unfold PTeam.decider; rw [if_pos (by omega)]
    have E := Lib.hid e0; clear e0
    by_cases hv : v < 1
    all_goals by_cases h3 : n < 3
    all_goals by_cases h7 : 7 < n
    all_goals first | (exfalso; omega) | skip
    all_goals
      go_enter Try.func12, Try.ntmps12
      go_wp2
      go_ret
      exact ⟨by rw [E.out]; rfl, rfl⟩
  · have hv : ¬ v < 1 := by omega
    have h3 : ¬ n < 3 := by omega
    have h7 : ¬ 7 < n := by omega
    have e0 : PTeam.decider v n = 1 + (v - 1) % n := by unfold PTeam.decider; rw [if_neg (by omega)]
    have E := Lib.hid e0; clear e0
    have hn0 : n ≠ 0 := by omega
    have q1 := Int.emod_nonneg (v - 1) hn0
    have q2 := Int.emod_lt_of_pos (v - 1) (show 0 < n by omega)
    have g1 : 1 ≤ v := by omega
    have g2 : 3 ≤ n := by omega
    have g3 : n ≤ 7 := by omega
    clear hn
    go_enter Try.func12, Try.ntmps12
    go_wp2
    go_ret
    exact ⟨by rw [E.out]; rfl, rfl⟩

end Go.Proofs.Ytnpobagipgephaa
