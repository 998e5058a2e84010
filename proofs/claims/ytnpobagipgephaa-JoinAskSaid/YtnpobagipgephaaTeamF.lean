/- A team of any processes. -/
import Derived.Test.YtnpobagipgephaaTeamA
namespace Go.Proofs.Ytnpobagipgephaa
open Go.RowKit

theorem tOf_c (w : World) (B : Nat) (A : Option Addr) (c n : Nat) (l : List Int) (h : Rd w B A c 1 n (is l)) :
    Calls Try.prog 14 #[.slice A n c] w fun e w' => e = .returned (.int .i64 (PTeam.ofL l : Nat)) ∧ w = w' := by
  have hlen := h.ilen
  have HL := Lib.hid hlen; clear hlen
  have hle := h.le
  have hcap := h.cap
  unfold maxLen at hcap
  go_enter Try.func14, Try.ntmps14
  go_wp2
  go_loop [3, 5, 8] (fun s3 _ s8 => ∃ (k : Nat), k ≤ n ∧ s8 = .int .i64 k ∧ s3 = .int .i64 (PTeam.ofL (l.take k) : Nat)) (fun _ _ s8 => n - (intOf s8).toNat)
  case atStart => exact ⟨0, by omega, rfl, rfl⟩
  case round =>
    obtain ⟨k, hk, rfl, rfl⟩ := hrel
    by_cases hlt : k < n
    · obtain ⟨b, o, x, rfl, hc, hd, hx⟩ := h.int hlt
      have hsn : PTeam.ofL (l.take (k + 1)) = PTeam.wth (PTeam.ofL (l.take k)) x := by
        have hk' : k < l.length := by rw [HL.out]; exact hlt
        rw [List.take_succ_eq_append_getElem hk']
        unfold PTeam.ofL
        rw [List.foldl_append]
        have : x = l[k] := by rw [hx]; simp [List.getD, List.getElem?_eq_getElem hk']
        rw [this]; rfl
      have HS := Lib.hid hsn; clear hsn hd hx
      have ht := PTeam.ofL_lt (l.take k)
      go_wp2_with fail
      refine (tWith_c w _ x ht).mono ?_
      rintro e w' ⟨rfl, rfl⟩
      go_wp2_with fail
      go_round
      case rel => exact ⟨k + 1, by omega, by go_num, by rw [HS.out]⟩
      case measure => simp [intOf]; omega
    · go_wp2
      go_ret
      exact ⟨by rw [List.take_of_length_le (by rw [HL.out]; omega)]; rfl, rfl⟩

end Go.Proofs.Ytnpobagipgephaa
