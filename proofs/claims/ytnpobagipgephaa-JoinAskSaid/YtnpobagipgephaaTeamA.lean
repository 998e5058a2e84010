/- Contracts of package team: only, Has, With, Without, And, first, OnesCount, Len, mayCount, May, Most, Decider, Of. -/
import Derived.Test.YtnpobagipgephaaInt
import Derived.Test.YtnpobagipgephaaPlainTeam
import Derived.Test.YtnpobagipgephaaTeamM
import Derived.BigQuiet
import Derived.Deep.QuietTactic
namespace Go.Proofs.Ytnpobagipgephaa
open Go.RowKit

theorem tOnly_c (w : World) (id : Int) :
    Calls Try.prog 29 #[.int .i64 id] w fun e w' => e = .returned (.int .i64 (PTeam.one id : Nat)) ∧ w = w' := by
  by_cases h1 : id < 1
  · go_enter Try.func29, Try.ntmps29
    go_wp2
    go_ret
    exact ⟨by rw [PTeam.one_out (.inl h1)]; rfl, rfl⟩
  · by_cases h7 : 7 < id
    · go_enter Try.func29, Try.ntmps29
      go_wp2
      go_ret
      exact ⟨by rw [PTeam.one_out (.inr h7)]; rfl, rfl⟩
    · have hc : id = 1 ∨ id = 2 ∨ id = 3 ∨ id = 4 ∨ id = 5 ∨ id = 6 ∨ id = 7 := by omega
      rcases hc with rfl | rfl | rfl | rfl | rfl | rfl | rfl
      all_goals
        go_enter Try.func29, Try.ntmps29
        go_wp2
        go_ret
        exact ⟨rfl, rfl⟩

theorem tHas_c (w : World) (t : Nat) (id : Int) (ht : t < 128) :
    Calls Try.prog 26 #[.int .i64 t, .int .i64 id] w fun e w' => e = .returned (.bool (PTeam.has t id)) ∧ w = w' := by
  have ho := PTeam.one_lt id
  have e1 := (i64_nat t (PTeam.one id) (by omega) (by omega)).1
  have e2 : (((t &&& PTeam.one id : Nat) : Int) != 0) = PTeam.has t id := by
    unfold PTeam.has
    rw [Bool.eq_iff_iff]; simp
  go_enter Try.func26, Try.ntmps26
  go_wp2_with fail
  refine (tOnly_c w id).mono ?_
  rintro e w' ⟨rfl, rfl⟩
  go_wp2_with fail
  go_ret
  exact ⟨rfl, rfl⟩

theorem tWith_c (w : World) (t : Nat) (id : Int) (ht : t < 128) :
    Calls Try.prog 22 #[.int .i64 t, .int .i64 id] w fun e w' => e = .returned (.int .i64 (PTeam.wth t id : Nat)) ∧ w = w' := by
  have ho := PTeam.one_lt id
  have e1 := (i64_nat t (PTeam.one id) (by omega) (by omega)).2
  go_enter Try.func22, Try.ntmps22
  go_wp2_with fail
  refine (tOnly_c w id).mono ?_
  rintro e w' ⟨rfl, rfl⟩
  go_wp2_with fail
  go_ret
  exact ⟨rfl, rfl⟩

theorem ones64_c (w : World) (t : Nat) (ht : t < 128) :
    Calls Try.prog 36 #[.int .u64 t] w fun e w' => e = .returned (.int .i64 (PTeam.cnt t : Nat)) ∧ w = w' := by
  go_enter Try.func36, Try.ntmps36
  go_wp2_with fail
  go_ret
  refine ⟨congrArg (fun x => Ending.returned (.int .i64 x)) ?_, rfl⟩
  clear w
  revert ht
  revert t
  decide +kernel

theorem ones_c (w : World) (t : Nat) (ht : t < 128) :
    Calls Try.prog 33 #[.int .u64 t] w fun e w' => e = .returned (.int .i64 (PTeam.cnt t : Nat)) ∧ w = w' := by
  go_enter Try.func33, Try.ntmps33
  go_wp2_with fail
  refine (ones64_c w t ht).mono ?_
  rintro e w' ⟨rfl, rfl⟩
  go_wp2_with fail
  go_ret
  exact ⟨rfl, rfl⟩

theorem tLen_c (w : World) (t : Nat) (ht : t < 128) :
    Calls Try.prog 31 #[.int .i64 t] w fun e w' => e = .returned (.int .i64 (PTeam.cnt t : Nat)) ∧ w = w' := by
  have e1 : bits .and .i64 (t : Int) 127 = (t : Int) := by rw [i64_and127]; omega
  go_enter Try.func31, Try.ntmps31
  go_wp2_with fail
  refine (first_c w 7 (by omega) (by omega)).mono ?_
  rw [show ((2 ^ (7 : Int).toNat - 1 : Nat) : Int) = 127 from rfl]
  rintro e w' ⟨rfl, rfl⟩
  go_wp2_with fail
  refine (ones_c w t ht).mono ?_
  rintro e w' ⟨rfl, rfl⟩
  go_wp2_with fail
  go_ret
  exact ⟨rfl, rfl⟩

theorem tMost_c (w : World) (t n : Int) (h1 : -9223372036854775808 ≤ t) (h2 : t ≤ 9223372036854775807) :
    Calls Try.prog 25 #[.int .i64 t, .int .i64 n] w fun e w' => e = .returned (.bool (PTeam.most t n)) ∧ w = w' := by
  have hm : PTeam.most t n = (PTeam.may t n && decide (n / 2 < (PTeam.cnt t.toNat : Int))) := rfl
  have HM := Lib.hid hm; clear hm
  cases hb : PTeam.may t n
  · go_enter Try.func25, Try.ntmps25
    go_wp2_with fail
    refine (tMay_c w t n h1 h2).mono ?_
    rintro e w' ⟨rfl, rfl⟩
    go_wp2_with fail
    go_ret
    exact ⟨by rw [HM.out, hb]; rfl, rfl⟩
  · obtain ⟨h3, h7, h0, ht⟩ := may_lt hb
    obtain ⟨k, rfl⟩ := Int.eq_ofNat_of_zero_le h0
    go_enter Try.func25, Try.ntmps25
    go_wp2_with fail
    refine (tMay_c w k n h1 h2).mono ?_
    rintro e w' ⟨rfl, rfl⟩
    go_wp2_with fail
    refine (tLen_c w k (by omega)).mono ?_
    rintro e w' ⟨rfl, rfl⟩
    go_wp2_with fail
    go_ret
    exact ⟨by rw [HM.out, hb]; rfl, rfl⟩

end Go.Proofs.Ytnpobagipgephaa
