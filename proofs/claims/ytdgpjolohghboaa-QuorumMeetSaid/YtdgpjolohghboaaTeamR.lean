/- The document's teams. -/
import Derived.Test.YtdgpjolohghboaaTeamA
namespace Go.Proofs.Ytdgpjolohghboaa
open Go.RowKit

set_option maxRecDepth 100000 in
theorem rtList_c (w : World) (t : Nat) (ht : t < 128) :
    Calls Try.prog 23 #[.int .i64 t] w fun e w' => ∃ A c, e = .returned (.slice A (PTeam.cnt t) c) ∧ w'.ownsRow w.heap.size 3 1 (.slice A (PTeam.cnt t) c) (PTeam.cnt t) (is (PTeam.lst t)) ∧ Below w.heap.size w w' := by
  have h7 := PTeam.cnt_le t
  have hall := PTeam.cnt_all t
  have HA := Lib.hid hall; clear hall
  have h0 : (t : Int) = ((t / 2 ^ 0 : Nat) : Int) := by simp
  have H0 := Lib.hid h0; clear h0
  go_enter Try.func23, Try.ntmps23
  go_wp2
  go_loopw [3, 4, 5] (fun s3 s4 s5 wr => ∃ (k : Nat) (A : Option Addr) (c u : Nat), k ≤ 7 ∧ s5 = .int .i64 ((k : Int) + 1) ∧ s3 = .slice A (PTeam.cntTo t k) c ∧ s4 = .int .u64 u ∧ Hid (u = t / 2 ^ k) ∧ u < 128 ∧ wr.ownsRow w.heap.size 3 1 (.slice A (PTeam.cntTo t k) c) (PTeam.cntTo t k) (is (PTeam.lstTo t k)) ∧ Below w.heap.size w wr)
    (fun _ _ s5 _ => 8 - (intOf s5).toNat)
  case atStart => exact ⟨0, none, 0, t, by omega, rfl, rfl, rfl, Lib.hid (by simp), ht, World.ownsRow_nil _ _ _ _, Below.refl _ _⟩
  case round =>
    obtain ⟨k, A, c, u, hk, rfl, rfl, rfl, HU, hu, hown, hbr⟩ := hrel
    have hsz := hbr.size
    have hle := PTeam.lstTo_le t k
    have hq : IntKind.u64.wrap ((u : Int) / 2) = ((u / 2 : Nat) : Int) := by rw [IntKind.wrap_u64]; omega
    have hdiv : u / 2 = t / 2 ^ (k + 1) := by rw [HU.out, Nat.div_div_eq_div_mul, Nat.pow_succ]
    have HD := Lib.hid hdiv; clear hdiv
    by_cases hlt : k < 7
    · have hsn := PTeam.lstTo_succ t k
      have hcs := PTeam.cntTo_succ t k ht hlt
      have HS := Lib.hid hsn; have HC := Lib.hid hcs; clear hsn hcs
      have hbit := PTeam.has_in t k ht hlt
      have hb2 : t.testBit k = decide (u % 2 = 1) := by rw [Nat.testBit_eq_decide_div_mod_eq, HU.out]
      rw [hb2] at hbit
      have HB := Lib.hid hbit; have HB2 := Lib.hid hb2; clear hbit hb2
      by_cases hh : u % 2 = 1
      · have hn : PTeam.cntTo t k ≤ 7 := Nat.le_trans hle hk
        go_wp2_with (at_builtin; go_must (refine wpList_push rfl (.tmp 15) (.tmp 17) _ rfl w.heap.size 3 _ 8 Try.underlying40 int_info rfl A c _ (is (PTeam.lstTo t k)) rfl hown rfl rfl ?c2 ?c3 ?c4 ?_))
        case c2 => unfold maxLen; omega
        case c3 => omega
        case c4 => omega
        intro A2 c2 w2 hown2 hgrow2 hbel2
        go_wp2
        go_roundw
        case rel =>
          have e1 : PTeam.cntTo t (k + 1) = PTeam.cntTo t k + 1 := by rw [HC.out, HB.out]; simp [hh]
          have e2 : is (PTeam.lstTo t (k + 1)) = is (PTeam.lstTo t k) ++ [.int .i64 ((k : Int) + 1)] := by rw [HS.out, HB2.out]; simp [hh, is]
          rw [← e1, ← e2] at hown2
          exact ⟨k + 1, A2, c2, u / 2, by omega, by go_num, by rw [e1], by go_num, HD, by omega, hown2, hbr.trans hbel2⟩
        case measure => simp [intOf]; omega
      · go_wp2
        go_roundw
        case rel =>
          have e1 : PTeam.cntTo t (k + 1) = PTeam.cntTo t k := by rw [HC.out, HB.out]; simp [hh]
          have e2 : PTeam.lstTo t (k + 1) = PTeam.lstTo t k := by rw [HS.out, HB2.out]; simp [hh]
          rw [← e1, ← e2] at hown
          exact ⟨k + 1, A, c, u / 2, by omega, by go_num, by rw [e1], by go_num, HD, by omega, hown, hbr⟩
        case measure => simp [intOf]; omega
    · obtain rfl : k = 7 := by omega
      rw [HA.out] at hown ⊢
      go_wp2
      go_ret
      exact ⟨A, c, rfl, hown, hbr⟩

theorem rtHas_c (w : World) (t : Nat) (id : Int) (ht : t < 128) :
    Calls Try.prog 12 #[.int .i64 t, .int .i64 id] w fun e w' => e = .returned (.bool (PTeam.has t id)) ∧ Below w.heap.size w w' := by
  have hmem := PTeam.lst_mem t ht id
  have HM := Lib.hid hmem; clear hmem
  have hlen := PTeam.lst_length t
  have HL := Lib.hid hlen; clear hlen
  have h7 := PTeam.cnt_le t
  go_enter Try.func12, Try.ntmps12
  go_wp2_with fail
  refine (rtList_c w t ht).mono ?_
  rintro e w1 ⟨A, c, rfl, hown, hb⟩
  have hr := Rd.of_own hown
  clear hown
  go_wp2
  go_loop [6] (fun s6 => ∃ (k : Nat), k ≤ PTeam.cnt t ∧ s6 = .int .i64 k ∧ Hid (id ∉ (PTeam.lst t).take k)) (fun s6 => PTeam.cnt t - (intOf s6).toNat)
  case atStart => exact ⟨0, by omega, rfl, Lib.hid (by simp)⟩
  case round =>
    obtain ⟨k, hk, rfl, HN⟩ := hrel
    by_cases hlt : k < PTeam.cnt t
    · obtain ⟨b, o, x, rfl, hc, hd, hx⟩ := hr.int hlt
      have hkl : k < (PTeam.lst t).length := by rw [HL.out]; exact hlt
      have hx' : x = (PTeam.lst t)[k] := by rw [hx]; simp [List.getD, List.getElem?_eq_getElem hkl]
      have HX := Lib.hid hx'; clear hx hx' hd
      by_cases he : x = id
      · subst he
        go_wp2
        go_ret
        have : PTeam.has t x = true := HM.out.1 (by rw [HX.out]; exact List.getElem_mem hkl)
        exact ⟨by rw [this]; rfl, hb⟩
      · go_wp2
        go_round
        case rel =>
          refine ⟨k + 1, by omega, by go_num, Lib.hid ?_⟩
          rw [List.take_succ_eq_append_getElem hkl, ← HX.out]
          simp only [List.mem_append, List.mem_singleton, not_or]
          exact ⟨HN.out, fun h => he h.symm⟩
        case measure => simp [intOf]; omega
    · go_wp2
      go_ret
      have hn := HN.out
      rw [List.take_of_length_le (by rw [HL.out]; omega), HM.out] at hn
      have : PTeam.has t id = false := by simpa using hn
      exact ⟨by rw [this]; rfl, hb⟩

theorem rtMayTeam_c (w : World) (t n : Int) :
    Calls Try.prog 27 #[.int .i64 t, .int .i64 n] w fun e w' => e = .returned (.bool (PTeam.may t n)) ∧ w = w' := by
  by_cases hn : n < 3 ∨ 7 < n ∨ t < 0
  · have hm : PTeam.may t n = false := by
      cases h : PTeam.may t n
      · rfl
      · have := may_lt h; omega
    have HM := Lib.hid hm; clear hm
    by_cases h3 : n < 3
    all_goals by_cases h7 : 7 < n
    all_goals by_cases h0 : t < 0
    all_goals first | (exfalso; omega) | skip
    all_goals
      go_enter Try.func27, Try.ntmps27
      go_wp2
      go_ret
      exact ⟨by rw [HM.out]; rfl, rfl⟩
  · obtain ⟨m, rfl⟩ : ∃ m : Nat, n = m := ⟨n.toNat, by omega⟩
    have h3 : ¬ (m : Int) < 3 := by omega
    have h7 : ¬ 7 < (m : Int) := by omega
    have h0 : ¬ t < 0 := by omega
    have hm : PTeam.may t m = decide (t < 2 ^ m) := by
      unfold PTeam.may
      have e1 : (3 ≤ (m : Int) ∧ (m : Int) ≤ 7) := by omega
      have e2 : 0 ≤ t := by omega
      simp [e2]; omega
    have HM := Lib.hid hm; clear hm
    clear hn
    go_enter Try.func27, Try.ntmps27
    go_wp2
    go_loop [5, 6] (fun s5 s6 => ∃ k p : Nat, k ≤ m ∧ s6 = .int .i64 k ∧ s5 = .int .i64 p ∧ Hid (p = 2 ^ k) ∧ p ≤ 128) (fun _ s6 => m - (intOf s6).toNat)
    case atStart => exact ⟨0, 1, by omega, rfl, rfl, Lib.hid rfl, by omega⟩
    case round =>
      obtain ⟨k, p, hk, rfl, rfl, HP, hp⟩ := hrel
      by_cases hlt : k < m
      · have hp2 : p * 2 = 2 ^ (k + 1) := by rw [HP.out, Nat.pow_succ]
        have hle : 2 ^ (k + 1) ≤ 2 ^ 7 := Nat.pow_le_pow_right (by decide) (by omega)
        rw [← hp2] at hle
        have HP2 := Lib.hid hp2; clear hp2
        go_wp2
        go_round
        case rel => exact ⟨k + 1, p * 2, by omega, by go_num, by go_num, HP2, by omega⟩
        case measure => simp [intOf]; omega
      · obtain rfl : k = m := by omega
        go_wp2
        go_ret
        have : ((p : Nat) : Int) = (2 : Int) ^ k := by rw [HP.out]; simp
        exact ⟨by rw [HM.out, ← this]; rfl, rfl⟩

theorem rtMost_c (w : World) (t n : Int) :
    Calls Try.prog 11 #[.int .i64 t, .int .i64 n] w fun e w' => e = .returned (.bool (PTeam.most t n)) ∧ Below w.heap.size w w' := by
  have hm : PTeam.most t n = (PTeam.may t n && decide (n / 2 < (PTeam.cnt t.toNat : Int))) := rfl
  have HM := Lib.hid hm; clear hm
  cases hb : PTeam.may t n
  · go_enter Try.func11, Try.ntmps11
    go_wp2_with fail
    refine (rtMayTeam_c w t n).mono ?_
    rintro e w' ⟨rfl, rfl⟩
    go_wp2_with fail
    go_ret
    exact ⟨by rw [HM.out, hb]; rfl, Below.refl _ _⟩
  · obtain ⟨h3, h7, h0, ht⟩ := may_lt hb
    obtain ⟨k, rfl⟩ := Int.eq_ofNat_of_zero_le h0
    go_enter Try.func11, Try.ntmps11
    go_wp2_with fail
    refine (rtMayTeam_c w k n).mono ?_
    rintro e w' ⟨rfl, rfl⟩
    go_wp2_with fail
    refine (rtList_c w k (by omega)).mono ?_
    rintro e w1 ⟨A, c, rfl, hown, hbel⟩
    go_wp2_with fail
    go_ret
    exact ⟨by rw [HM.out, hb]; rfl, hbel⟩

end Go.Proofs.Ytdgpjolohghboaa
