/- Contracts of the statements' begun and cut, and of curfewref1's List, Has, MayTeam, Most, Decider. -/
import Derived.Test.YtgmjajfdliieoaaTeamB
namespace Go.Proofs.Ytgmjajfdliieoaa
open Go.RowKit

set_option maxRecDepth 100000 in
theorem begun_c (w : World) : Calls Try.prog 10 #[] w fun e w' => e = .returned (.bool true) ∧ Below w.heap.size w w' := by
  have g1 : PTeam.ofL [3, 1, 9, 3] = 5 := by decide
  have g2 : PTeam.cnt 5 = 2 := by decide
  have g3 : PTeam.lst 5 = [1, 3] := by decide
  have g4 : PTeam.has 5 3 = true := by decide
  have g5 : PTeam.has 5 2 = false := by decide
  have g6 : PTeam.wth 5 2 = 7 := by decide
  have g7 : PTeam.wout 5 1 = 4 := by decide
  have g8 : (5 : Nat) &&& 6 = 4 := by decide
  have g9 : PTeam.may 5 3 = true := by decide
  have g10 : PTeam.most 5 3 = true := by decide
  have g11 : PTeam.most 4 3 = false := by decide
  have g12 : PTeam.decider 4 3 = 1 := by decide
  have G1 := Lib.hid g1; have G2 := Lib.hid g2; have G3 := Lib.hid g3; have G4 := Lib.hid g4; have G5 := Lib.hid g5; have G6 := Lib.hid g6
  have G7 := Lib.hid g7; have G8 := Lib.hid g8; have G9 := Lib.hid g9; have G10 := Lib.hid g10; have G11 := Lib.hid g11; have G12 := Lib.hid g12
  clear g1 g2 g3 g4 g5 g6 g7 g8 g9 g10 g11 g12
  go_enter Try.func10, Try.ntmps10
  go_wp2_with fail
  refine (Of_c _ _ _ _ _ [3, 1, 9, 3] (Rd.new w #[.int .i64 3, .int .i64 1, .int .i64 9, .int .i64 3] _ 1 4 rfl (by simp [maxLen]))).mono ?_
  rintro e w1 ⟨rfl, rfl⟩
  rw [G1.out]
  go_wp2_with fail
  refine (List_c _ 5 (by omega)).mono ?_
  rintro e w1 ⟨A, c, rfl, hown, hb⟩
  rw [G2.out, G3.out] at hown
  rw [G2.out]
  obtain ⟨b, o, x, rfl, hc, -, hx⟩ := (Rd.of_own hown).int (i := 1) (by omega)
  simp at hx; subst hx
  go_wp2_with fail
  refine (Has_c _ 5 3 (by omega)).mono ?_
  rw [G4.out]
  rintro e w' ⟨rfl, rfl⟩
  go_wp2_with fail
  refine (Has_c _ 5 2 (by omega)).mono ?_
  rw [G5.out]
  rintro e w' ⟨rfl, rfl⟩
  go_wp2_with fail
  refine (Len_c _ 5 (by omega)).mono ?_
  rw [G2.out]
  rintro e w' ⟨rfl, rfl⟩
  go_wp2_with fail
  refine (With_c _ 5 2 (by omega)).mono ?_
  rw [G6.out]
  rintro e w' ⟨rfl, rfl⟩
  go_wp2_with fail
  refine (Without_c _ 5 1 (by omega)).mono ?_
  rw [G7.out]
  rintro e w' ⟨rfl, rfl⟩
  go_wp2_with fail
  refine (And_c _ 5 6 (by omega) (by omega)).mono ?_
  rw [G8.out]
  rintro e w' ⟨rfl, rfl⟩
  go_wp2_with fail
  refine (May_c _ 5 3 (by omega) (by omega)).mono ?_
  rw [G9.out]
  rintro e w' ⟨rfl, rfl⟩
  go_wp2_with fail
  refine (Most_c _ 5 3 (by omega) (by omega)).mono ?_
  rw [G10.out]
  rintro e w' ⟨rfl, rfl⟩
  go_wp2_with fail
  refine (Most_c _ 4 3 (by omega) (by omega)).mono ?_
  rw [G11.out]
  rintro e w' ⟨rfl, rfl⟩
  go_wp2_with fail
  refine (Decider_c _ 4 3 (by omega) (by omega)).mono ?_
  rw [G12.out]
  rintro e w' ⟨rfl, rfl⟩
  go_wp2_with fail
  go_ret
  exact ⟨rfl, ((Below.refl _ _).alloc (Nat.le_refl _) _).trans (hb.mono (by simp))⟩

theorem cut_c (w : World) (B : Nat) (A : Option Addr) (c n : Nat) (l : List Int) (h : Rd w B A c 1 n (is l)) :
    Calls Try.prog 11 #[.slice A n c] w fun e w' => ∃ A' c' m l', e = .returned (.slice A' m c') ∧ w = w' ∧ Rd w B A' c' 1 m (is l') ∧ m ≤ 20 := by
  by_cases hlt : 20 < n
  · go_enter Try.func11, Try.ntmps11
    go_wp2_with (with_reducible show wpList _ _ _ ((⟨some 7, Op.slice 22 _ _ _ _, _, _, _, _⟩ : Oper) :: _) _ _
                 go_must (refine wpList_cut rfl 22 (.tmp 6) _ _ rfl 3 _ 1 8 Try.underlying22 int_info B A c n (is l) rfl h 0 20 (.inl ⟨rfl, rfl⟩) (.inr rfl) (by omega) (by omega) ?_))
    intro A' c' hr
    go_wp2
    go_ret
    exact ⟨A', c', 20, l.take 20, rfl, rfl, by simpa [is_take] using hr, by omega⟩
  · go_enter Try.func11, Try.ntmps11
    go_wp2
    go_ret
    exact ⟨A, c, n, l, rfl, rfl, h, by omega⟩

set_option maxRecDepth 100000 in
theorem rList_c (w : World) (t : Nat) (ht : t < 128) :
    Calls Try.prog 29 #[.int .i64 t] w fun e w' => ∃ A c, e = .returned (.slice A (PTeam.cnt t) c) ∧ w'.ownsRow w.heap.size 3 1 (.slice A (PTeam.cnt t) c) (PTeam.cnt t) (is (PTeam.lst t)) ∧ Below w.heap.size w w' := by
  have h7 := PTeam.cnt_le t
  have hall := PTeam.cnt_all t
  have HA := Lib.hid hall; clear hall
  have h0 : (t : Int) = ((t / 2 ^ 0 : Nat) : Int) := by simp
  have H0 := Lib.hid h0; clear h0
  go_enter Try.func29, Try.ntmps29
  go_wp2
  go_loopw [3, 4, 5] (fun s3 s4 s5 wr => ∃ (k : Nat) (A : Option Addr) (c u : Nat), k ≤ 7 ∧ s5 = .int .i64 ((k : Int) + 1) ∧ s3 = .slice A (PTeam.cntTo t k) c ∧ s4 = .int .u64 u ∧ Hid (u = t / 2 ^ k) ∧ u < 128 ∧ wr.ownsRow w.heap.size 3 1 (.slice A (PTeam.cntTo t k) c) (PTeam.cntTo t k) (is (PTeam.lstTo t k)) ∧ Below w.heap.size w wr)
    (fun _ _ s5 _ => 8 - (intOf s5).toNat)
  case atStart => exact ⟨0, none, 0, t, by omega, rfl, rfl, rfl, Lib.hid (by simp), ht, World.ownsRow_nil _ _ _ _, Below.refl _ _⟩
  case round =>
    obtain ⟨k, A, c, u, hk, rfl, rfl, rfl, HU, hu, hown, hbr⟩ := hrel
    have hsz := hbr.size
    have hle := PTeam.lstTo_le t k
    have hq : IntKind.u64.wrap ((u : Int) / 2) = ((u / 2 : Nat) : Int) := by rw [IntKind.wrap_u64]; omega
    have hdiv : u / 2 = t / 2 ^ (k + 1) := by rw [HU.out, Nat.div_div_eq_div_mul, Nat.pow_succ]
    have HD := Lib.hid hdiv; clear hdiv
    by_cases hlt : k < 7
    · have hsn := PTeam.lstTo_succ t k
      have hcs := PTeam.cntTo_succ t k ht hlt
      have HS := Lib.hid hsn; have HC := Lib.hid hcs; clear hsn hcs
      have hbit := PTeam.has_in t k ht hlt
      have hb2 : t.testBit k = decide (u % 2 = 1) := by rw [Nat.testBit_eq_decide_div_mod_eq, HU.out]
      rw [hb2] at hbit
      have HB := Lib.hid hbit; have HB2 := Lib.hid hb2; clear hbit hb2
      by_cases hh : u % 2 = 1
      · have hn : PTeam.cntTo t k ≤ 7 := Nat.le_trans hle hk
        go_wp2_with (at_builtin; go_must (refine wpList_push rfl (.tmp 15) (.tmp 17) _ rfl w.heap.size 3 _ 8 Try.underlying22 int_info rfl A c _ (is (PTeam.lstTo t k)) rfl hown rfl rfl ?c2 ?c3 ?c4 ?_))
        case c2 => unfold maxLen; omega
        case c3 => omega
        case c4 => omega
        intro A2 c2 w2 hown2 hgrow2 hbel2
        go_wp2
        go_roundw
        case rel =>
          have e1 : PTeam.cntTo t (k + 1) = PTeam.cntTo t k + 1 := by rw [HC.out, HB.out]; simp [hh]
          have e2 : is (PTeam.lstTo t (k + 1)) = is (PTeam.lstTo t k) ++ [.int .i64 ((k : Int) + 1)] := by rw [HS.out, HB2.out]; simp [hh, is]
          rw [← e1, ← e2] at hown2
          exact ⟨k + 1, A2, c2, u / 2, by omega, by go_num, by rw [e1], by go_num, HD, by omega, hown2, hbr.trans hbel2⟩
        case measure => simp [intOf]; omega
      · go_wp2
        go_roundw
        case rel =>
          have e1 : PTeam.cntTo t (k + 1) = PTeam.cntTo t k := by rw [HC.out, HB.out]; simp [hh]
          have e2 : PTeam.lstTo t (k + 1) = PTeam.lstTo t k := by rw [HS.out, HB2.out]; simp [hh]
          rw [← e1, ← e2] at hown
          exact ⟨k + 1, A, c, u / 2, by omega, by go_num, by rw [e1], by go_num, HD, by omega, hown, hbr⟩
        case measure => simp [intOf]; omega
    · obtain rfl : k = 7 := by omega
      rw [HA.out] at hown ⊢
      go_wp2
      go_ret
      exact ⟨A, c, rfl, hown, hbr⟩

theorem rHas_c (w : World) (t : Nat) (id : Int) (ht : t < 128) :
    Calls Try.prog 16 #[.int .i64 t, .int .i64 id] w fun e w' => e = .returned (.bool (PTeam.has t id)) ∧ Below w.heap.size w w' := by
  have hmem := PTeam.lst_mem t ht id
  have HM := Lib.hid hmem; clear hmem
  have hlen := PTeam.lst_length t
  have HL := Lib.hid hlen; clear hlen
  have h7 := PTeam.cnt_le t
  go_enter Try.func16, Try.ntmps16
  go_wp2_with fail
  refine (rList_c w t ht).mono ?_
  rintro e w1 ⟨A, c, rfl, hown, hb⟩
  have hr := Rd.of_own hown
  clear hown
  go_wp2
  go_loop [6] (fun s6 => ∃ (k : Nat), k ≤ PTeam.cnt t ∧ s6 = .int .i64 k ∧ Hid (id ∉ (PTeam.lst t).take k)) (fun s6 => PTeam.cnt t - (intOf s6).toNat)
  case atStart => exact ⟨0, by omega, rfl, Lib.hid (by simp)⟩
  case round =>
    obtain ⟨k, hk, rfl, HN⟩ := hrel
    by_cases hlt : k < PTeam.cnt t
    · obtain ⟨b, o, x, rfl, hc, hd, hx⟩ := hr.int hlt
      have hkl : k < (PTeam.lst t).length := by rw [HL.out]; exact hlt
      have hx' : x = (PTeam.lst t)[k] := by rw [hx]; simp [List.getD, List.getElem?_eq_getElem hkl]
      have HX := Lib.hid hx'; clear hx hx' hd
      by_cases he : x = id
      · subst he
        go_wp2
        go_ret
        have : PTeam.has t x = true := HM.out.1 (by rw [HX.out]; exact List.getElem_mem hkl)
        exact ⟨by rw [this]; rfl, hb⟩
      · go_wp2
        go_round
        case rel =>
          refine ⟨k + 1, by omega, by go_num, Lib.hid ?_⟩
          rw [List.take_succ_eq_append_getElem hkl, ← HX.out]
          simp only [List.mem_append, List.mem_singleton, not_or]
          exact ⟨HN.out, fun h => he h.symm⟩
        case measure => simp [intOf]; omega
    · go_wp2
      go_ret
      have hn := HN.out
      rw [List.take_of_length_le (by rw [HL.out]; omega), HM.out] at hn
      have : PTeam.has t id = false := by simpa using hn
      exact ⟨by rw [this]; rfl, hb⟩

theorem rMayTeam_c (w : World) (t n : Int) :
    Calls Try.prog 21 #[.int .i64 t, .int .i64 n] w fun e w' => e = .returned (.bool (PTeam.may t n)) ∧ w = w' := by
  by_cases hn : n < 3 ∨ 7 < n ∨ t < 0
  · have hm : PTeam.may t n = false := by
      cases h : PTeam.may t n
      · rfl
      · have := may_lt h; omega
    have HM := Lib.hid hm; clear hm
    by_cases h3 : n < 3
    all_goals by_cases h7 : 7 < n
    all_goals by_cases h0 : t < 0
    all_goals first | (exfalso; omega) | skip
    all_goals
      go_enter Try.func21, Try.ntmps21
      go_wp2
      go_ret
      exact ⟨by rw [HM.out]; rfl, rfl⟩
  · obtain ⟨m, rfl⟩ : ∃ m : Nat, n = m := ⟨n.toNat, by omega⟩
    have h3 : ¬ (m : Int) < 3 := by omega
    have h7 : ¬ 7 < (m : Int) := by omega
    have h0 : ¬ t < 0 := by omega
    have hm : PTeam.may t m = decide (t < 2 ^ m) := by
      unfold PTeam.may
      have e1 : (3 ≤ (m : Int) ∧ (m : Int) ≤ 7) := by omega
      have e2 : 0 ≤ t := by omega
      simp [e2]; omega
    have HM := Lib.hid hm; clear hm
    clear hn
    go_enter Try.func21, Try.ntmps21
    go_wp2
    go_loop [5, 6] (fun s5 s6 => ∃ k p : Nat, k ≤ m ∧ s6 = .int .i64 k ∧ s5 = .int .i64 p ∧ Hid (p = 2 ^ k) ∧ p ≤ 128) (fun _ s6 => m - (intOf s6).toNat)
    case atStart => exact ⟨0, 1, by omega, rfl, rfl, Lib.hid rfl, by omega⟩
    case round =>
      obtain ⟨k, p, hk, rfl, rfl, HP, hp⟩ := hrel
      by_cases hlt : k < m
      · have hp2 : p * 2 = 2 ^ (k + 1) := by rw [HP.out, Nat.pow_succ]
        have hle : 2 ^ (k + 1) ≤ 2 ^ 7 := Nat.pow_le_pow_right (by decide) (by omega)
        rw [← hp2] at hle
        have HP2 := Lib.hid hp2; clear hp2
        go_wp2
        go_round
        case rel => exact ⟨k + 1, p * 2, by omega, by go_num, by go_num, HP2, by omega⟩
        case measure => simp [intOf]; omega
      · obtain rfl : k = m := by omega
        go_wp2
        go_ret
        have : ((p : Nat) : Int) = (2 : Int) ^ k := by rw [HP.out]; simp
        exact ⟨by rw [HM.out, ← this]; rfl, rfl⟩

theorem rMost_c (w : World) (t n : Int) :
    Calls Try.prog 23 #[.int .i64 t, .int .i64 n] w fun e w' => e = .returned (.bool (PTeam.most t n)) ∧ Below w.heap.size w w' := by
  have hm : PTeam.most t n = (PTeam.may t n && decide (n / 2 < (PTeam.cnt t.toNat : Int))) := rfl
  have HM := Lib.hid hm; clear hm
  cases hb : PTeam.may t n
  · go_enter Try.func23, Try.ntmps23
    go_wp2_with fail
    refine (rMayTeam_c w t n).mono ?_
    rintro e w' ⟨rfl, rfl⟩
    go_wp2_with fail
    go_ret
    exact ⟨by rw [HM.out, hb]; rfl, Below.refl _ _⟩
  · obtain ⟨h3, h7, h0, ht⟩ := may_lt hb
    obtain ⟨k, rfl⟩ := Int.eq_ofNat_of_zero_le h0
    go_enter Try.func23, Try.ntmps23
    go_wp2_with fail
    refine (rMayTeam_c w k n).mono ?_
    rintro e w' ⟨rfl, rfl⟩
    go_wp2_with fail
    refine (rList_c w k (by omega)).mono ?_
    rintro e w1 ⟨A, c, rfl, hown, hbel⟩
    go_wp2_with fail
    go_ret
    exact ⟨by rw [HM.out, hb]; rfl, hbel⟩

theorem rDecider_c (w : World) (v n : Int) (h1 : -9223372036854775808 ≤ v) (h2 : v ≤ 9223372036854775807) :
    Calls Try.prog 25 #[.int .i64 v, .int .i64 n] w fun e w' => e = .returned (.int .i64 (PTeam.decider v n)) ∧ w = w' := by
  by_cases hn : v < 1 ∨ n < 3 ∨ 7 < n
  · have e0 : PTeam.decider v n = 0 := by unfold PTeam.decider; rw [if_pos (by omega)]
    have E := Lib.hid e0; clear e0
    by_cases hv : v < 1
    all_goals by_cases h3 : n < 3
    all_goals by_cases h7 : 7 < n
    all_goals first | (exfalso; omega) | skip
    all_goals
      go_enter Try.func25, Try.ntmps25
      go_wp2
      go_ret
      exact ⟨by rw [E.out]; rfl, rfl⟩
  · have hv : ¬ v < 1 := by omega
    have h3 : ¬ n < 3 := by omega
    have h7 : ¬ 7 < n := by omega
    have e0 : PTeam.decider v n = 1 + (v - 1) % n := by unfold PTeam.decider; rw [if_neg (by omega)]
    have E := Lib.hid e0; clear e0
    have hn0 : n ≠ 0 := by omega
    have q1 := Int.emod_nonneg (v - 1) hn0
    have q2 := Int.emod_lt_of_pos (v - 1) (show 0 < n by omega)
    have g1 : 1 ≤ v := by omega
    have g2 : 3 ≤ n := by omega
    have g3 : n ≤ 7 := by omega
    clear hn
    go_enter Try.func25, Try.ntmps25
    go_wp2
    go_ret
    exact ⟨by rw [E.out]; rfl, rfl⟩

end Go.Proofs.Ytgmjajfdliieoaa
