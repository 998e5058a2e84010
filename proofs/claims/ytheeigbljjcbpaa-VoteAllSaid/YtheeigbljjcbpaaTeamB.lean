/- Contracts: List, the statements' begun, cut. -/
import Derived.Test.YtheeigbljjcbpaaTeamA
namespace Go.Proofs.Ytheeigbljjcbpaa
open Go.RowKit

set_option maxRecDepth 100000 in
theorem tList_c (w : World) (t : Nat) (ht : t < 128) :
    Calls Try.prog 33 #[.int .i64 t] w fun e w' => ∃ A c, e = .returned (.slice A (PTeam.cnt t) c) ∧ w'.ownsRow w.heap.size 3 1 (.slice A (PTeam.cnt t) c) (PTeam.cnt t) (is (PTeam.lst t)) ∧ Below w.heap.size w w' := by
  obtain ⟨i0, hi, hz0, hz1, hz2⟩ := info_parts int_info
  have h7 := PTeam.cnt_le t
  have hall := PTeam.cnt_all t
  have HA := Lib.hid hall; clear hall
  go_enter Try.func33, Try.ntmps33
  go_wp2_with fail
  refine (tLen_c w t ht).mono ?_
  rintro e w' ⟨rfl, rfl⟩
  go_wp2_with (at_make; refine wpList_make_own _ rfl _ _ 55 rfl w.heap.size 3 i0 (.int .i64 0) 1 Try.underlying55 hi hz0 hz1 _ _ _ (PTeam.cnt t) rfl rfl (by omega) ?b2 ?b3 (Nat.le_refl _) ?_)
  case b2 => rw [hz2]; omega
  case b3 => unfold maxLen; omega
  intro w0 hown0 hgrow0
  have hb0 : Below w.heap.size w w0 := (Below.refl _ _).grown hgrow0 (Nat.le_refl _) (fun k h => by cases h)
  go_wp2
  go_loopw [3, 4] (fun s3 s4 wr => ∃ (k : Nat) (A : Option Addr) (c : Nat), k ≤ 7 ∧ s4 = .int .i64 ((k : Int) + 1) ∧ s3 = .slice A (PTeam.cntTo t k) c ∧ wr.ownsRow w.heap.size 3 1 (.slice A (PTeam.cntTo t k) c) (PTeam.cntTo t k) (is (PTeam.lstTo t k)) ∧ Below w.heap.size w wr)
    (fun _ s4 _ => 8 - (intOf s4).toNat)
  case atStart => exact ⟨0, _, _, by omega, rfl, rfl, hown0, hb0⟩
  case round =>
    obtain ⟨k, A, c, hk, rfl, rfl, hown, hbr⟩ := hrel
    have hsz := hbr.size
    have hle := PTeam.lstTo_le t k
    by_cases hlt : k < 7
    · have hsn := PTeam.lstTo_succ t k
      have hcs := PTeam.cntTo_succ t k ht hlt
      have HS := Lib.hid hsn; have HC := Lib.hid hcs; clear hsn hcs
      have hbit := PTeam.has_in t k ht hlt
      have HB := Lib.hid hbit; clear hbit
      cases hh : PTeam.has t ((k : Int) + 1)
      · go_wp2_with fail
        refine (tHas_c wr t _ ht).mono ?_
        rintro e w' ⟨rfl, rfl⟩
        go_wp2_with fail
        go_roundw
        case rel =>
          have e1 : PTeam.cntTo t (k + 1) = PTeam.cntTo t k := by rw [HC.out, hh]; simp
          have e2 : PTeam.lstTo t (k + 1) = PTeam.lstTo t k := by rw [HS.out, ← HB.out, hh]; simp
          rw [← e1, ← e2] at hown
          exact ⟨k + 1, A, c, by omega, by go_num, by rw [e1], hown, hbr⟩
        case measure => simp [intOf]; omega
      · have hn : PTeam.cntTo t k ≤ 7 := Nat.le_trans hle hk
        go_wp2_with fail
        refine (tHas_c wr t _ ht).mono ?_
        rintro e w' ⟨rfl, rfl⟩
        go_wp2_with (at_builtin; go_must (refine wpList_push rfl (.tmp 15) (.tmp 17) _ rfl w.heap.size 3 _ 8 Try.underlying55 int_info rfl A c _ (is (PTeam.lstTo t k)) rfl hown rfl rfl ?c2 ?c3 ?c4 ?_))
        case c2 => unfold maxLen; omega
        case c3 => omega
        case c4 => omega
        intro A2 c2 w2 hown2 hgrow2 hbel2
        go_wp2
        go_roundw
        case rel =>
          have e1 : PTeam.cntTo t (k + 1) = PTeam.cntTo t k + 1 := by rw [HC.out, hh]; simp
          have e2 : is (PTeam.lstTo t (k + 1)) = is (PTeam.lstTo t k) ++ [.int .i64 ((k : Int) + 1)] := by rw [HS.out, ← HB.out, hh]; simp [is]
          rw [← e1, ← e2] at hown2
          exact ⟨k + 1, A2, c2, by omega, by go_num, by rw [e1], hown2, hbr.trans hbel2⟩
        case measure => simp [intOf]; omega
    · obtain rfl : k = 7 := by omega
      rw [HA.out] at hown ⊢
      go_wp2
      go_ret
      exact ⟨A, c, rfl, hown, hbr⟩

end Go.Proofs.Ytheeigbljjcbpaa
