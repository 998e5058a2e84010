/- Contracts of package vote: New, View, Team, Enough, isOpen, isBetter; of cmp.Compare, cmp.Or. -/
import Derived.Test.YtheeigbljjcbpaaVote
import Derived.Test.YtheeigbljjcbpaaTeamA
namespace Go.Proofs.Ytheeigbljjcbpaa
open Go.RowKit PVote

/-- What a view, a count are. -/
def VN (view n : Int) : Prop := 1 ≤ view ∧ view ≤ 9223372036854775807 ∧ 3 ≤ n ∧ n ≤ 7
theorem vnew_no (w : World) (view n : Int) (h1 : -9223372036854775808 ≤ view) (h2 : view ≤ 9223372036854775807) (h : view < 1 ∨ n < 3 ∨ 7 < n) :
    Calls Try.prog 10 #[.int .i64 view, .int .i64 n] w fun e w' => e = .returned (.pointer none) ∧ w = w' := by
  have H := Lib.hid (show PTeam.decider view n = 0 by unfold PTeam.decider; exact if_pos h)
  clear h
  go_enter Try.func10, Try.ntmps10
  go_wp2_with fail
  refine (tDecider_c w view n h1 h2).mono ?_
  rw [H.out]
  rintro e w' ⟨rfl, rfl⟩
  go_wp2_with fail
  go_ret
  exact ⟨rfl, rfl⟩
theorem vnew_yes (w : World) (view n : Int) (h : VN view n) :
    Calls Try.prog 10 #[.int .i64 view, .int .i64 n] w fun e w' => e = .returned (.pointer (some ⟨w.heap.size, 0, none⟩)) ∧ Vs w' w.heap.size [w.heap.size] view n none7 ∧ Below w.heap.size w w' := by
  obtain ⟨hv, h2, h3, h7⟩ := h
  have h0 : PTeam.decider view n ≠ 0 := by
    unfold PTeam.decider
    rw [if_neg (by omega)]
    have := Int.emod_nonneg (view - 1) (show n ≠ 0 by omega)
    omega
  obtain ⟨d, hd⟩ : ∃ d, PTeam.decider view n = d := ⟨_, rfl⟩
  rw [hd] at h0
  have H := Lib.hid hd
  have z1 : (d == 0) = false := by simpa using h0
  clear hd
  go_enter Try.func10, Try.ntmps10
  go_wp2_with fail
  refine (tDecider_c w view n (by omega) h2).mono ?_
  rw [H.out]
  rintro e w' ⟨rfl, rfl⟩
  go_wp2_with fail
  go_ret
  exact ⟨rfl, Vs.new w view n _ rfl, (Below.refl _ _).alloc (Nat.le_refl _) _⟩

theorem vview_nil (w : World) : Calls Try.prog 20 #[.pointer none] w fun e w' => e = .returned (.int .i64 0) ∧ w = w' := by
  go_enter Try.func20, Try.ntmps20
  go_wp2_with fail
  go_ret
  exact ⟨rfl, rfl⟩
theorem vteam_nil (w : World) : Calls Try.prog 16 #[.pointer none] w fun e w' => e = .returned (.int .i64 0) ∧ w = w' := by
  go_enter Try.func16, Try.ntmps16
  go_wp2_with fail
  go_ret
  exact ⟨rfl, rfl⟩
theorem vview_c (w : World) (g : Nat) (F : List Nat) (view n : Int) (S : List (Option Vt)) (h : Vs w g F view n S) :
    Calls Try.prog 20 #[.pointer (some ⟨g, 0, none⟩)] w fun e w' => e = .returned (.int .i64 view) ∧ w = w' := by
  obtain ⟨q0, q1, q2⟩ := h.head
  clear h
  go_enter Try.func20, Try.ntmps20
  go_wp2_with fail
  go_ret
  exact ⟨rfl, rfl⟩
theorem vteam_c (w : World) (g : Nat) (F : List Nat) (view n : Int) (S : List (Option Vt)) (h : Vs w g F view n S) :
    Calls Try.prog 16 #[.pointer (some ⟨g, 0, none⟩)] w fun e w' => e = .returned (.int .i64 (tm S)) ∧ w = w' := by
  obtain ⟨q0, q1, q2⟩ := h.head
  clear h
  generalize ((tm S : Nat) : Int) = t at *
  go_enter Try.func16, Try.ntmps16
  go_wp2_with fail
  go_ret
  exact ⟨rfl, rfl⟩
theorem venough_nil (w : World) : Calls Try.prog 18 #[.pointer none] w fun e w' => e = .returned (.bool false) ∧ Below w.heap.size w w' := by
  go_enter Try.func18, Try.ntmps18
  go_wp2_with fail
  go_quiet (fail)
  go_wp2_with fail
  go_ret
  exact ⟨rfl, ⟨rfl, rfl, rfl, Nat.le_refl _, fun _ _ => rfl⟩⟩
theorem venough_c (w : World) (g : Nat) (F : List Nat) (view n : Int) (S : List (Option Vt)) (h : Vs w g F view n S) :
    Calls Try.prog 18 #[.pointer (some ⟨g, 0, none⟩)] w fun e w' => e = .returned (.bool (PTeam.most (tm S) n)) ∧ Below w.heap.size w w' := by
  obtain ⟨q0, q1, q2⟩ := h.head
  have hm : ∀ q, Calls Try.prog 36 #[.int .i64 (tm S), .int .i64 n] (w.drewN q) fun e w' => e = .returned (.bool (PTeam.most (tm S) n)) ∧ w' = w.drewN q := fun q =>
    (tMost_c (w.drewN q) (tm S) n (by omega) (by have := tm_lt S; omega)).mono fun e w' h => ⟨h.1, h.2.symm⟩
  clear h
  generalize PTeam.most (tm S) n = b at *
  generalize ((tm S : Nat) : Int) = t at *
  go_enter Try.func18, Try.ntmps18
  go_wp2_with fail
  go_quiet (first | (go_at_call 36; refine Calls.quiet_of_same (hm _)))
  go_wp2_with fail
  go_ret
  exact ⟨rfl, ⟨rfl, rfl, rfl, Nat.le_refl _, fun _ _ => rfl⟩⟩

theorem isOpen_c (w : World) (g : Nat) (F : List Nat) (view n : Int) (S : List (Option Vt)) (h : Vs w g F view n S) (i : Int) :
    Calls Try.prog 27 #[.pointer (some ⟨g, 0, none⟩), .int .i64 i] w fun e w' => e = .returned (.bool (decide (1 ≤ i ∧ i ≤ n) && !PTeam.has (tm S) i)) ∧ w = w' := by
  obtain ⟨q0, q1, q2⟩ := h.head
  have hlt := tm_lt S
  clear h
  obtain ⟨s, hs⟩ : ∃ s, (decide (1 ≤ i ∧ i ≤ n) && !PTeam.has (tm S) i) = s := ⟨_, rfl⟩
  rw [hs]
  have H := Lib.hid hs
  clear hs
  by_cases h1 : 1 ≤ i
  · by_cases h2 : i ≤ n
    · go_enter Try.func27, Try.ntmps27
      go_wp2_with fail
      refine (tHas_c w (tm S) i hlt).mono ?_
      rintro e w' ⟨rfl, rfl⟩
      go_wp2_with fail
      go_ret
      exact ⟨by rw [← H.out]; simp [h1, h2], rfl⟩
    · go_enter Try.func27, Try.ntmps27
      go_wp2_with fail
      go_ret
      exact ⟨by rw [← H.out, decide_eq_false (by omega)]; rfl, rfl⟩
  · go_enter Try.func27, Try.ntmps27
    go_wp2_with fail
    go_ret
    exact ⟨by rw [← H.out, decide_eq_false (by omega)]; rfl, rfl⟩

/-- cmp.Compare. -/
def sgn (x y : Int) : Int := if x < y then -1 else if y < x then 1 else 0
theorem nan64_c (w : World) (x : Int) : Calls Try.prog 57 #[.int .i64 x] w fun e w' => e = .returned (.bool false) ∧ w = w' := by
  have h : (x != x) = false := by simp
  go_enter Try.func57, Try.ntmps57
  go_wp2_with fail
  go_ret
  exact ⟨rfl, rfl⟩
theorem nanI_c (w : World) (x : Int) : Calls Try.prog 58 #[.int .i64 x] w fun e w' => e = .returned (.bool false) ∧ w = w' := by
  have h : (x != x) = false := by simp
  go_enter Try.func58, Try.ntmps58
  go_wp2_with fail
  go_ret
  exact ⟨rfl, rfl⟩
theorem cmp64_c (w : World) (x y : Int) : Calls Try.prog 47 #[.int .i64 x, .int .i64 y] w fun e w' => e = .returned (.int .i64 (sgn x y)) ∧ w = w' := by
  obtain ⟨s, hs⟩ : ∃ s, sgn x y = s := ⟨_, rfl⟩
  rw [hs]
  rcases Int.lt_trichotomy x y with h | h | h
  all_goals
    unfold sgn at hs
    simp only [h, Int.lt_irrefl, if_true, if_false, show ∀ a b : Int, a < b → ¬ b < a from fun a b h => by omega] at hs
    subst hs
    try (have h' : ¬ x < y := by omega)
    go_enter Try.func47, Try.ntmps47
    go_wp2_with fail
    refine (nan64_c w _).mono ?_
    rintro e w' ⟨rfl, rfl⟩
    go_wp2_with fail
    refine (nan64_c w _).mono ?_
    rintro e w' ⟨rfl, rfl⟩
    go_wp2_with fail
    go_ret
    exact ⟨rfl, rfl⟩
theorem cmpI_c (w : World) (x y : Int) : Calls Try.prog 48 #[.int .i64 x, .int .i64 y] w fun e w' => e = .returned (.int .i64 (sgn x y)) ∧ w = w' := by
  obtain ⟨s, hs⟩ : ∃ s, sgn x y = s := ⟨_, rfl⟩
  rw [hs]
  rcases Int.lt_trichotomy x y with h | h | h
  all_goals
    unfold sgn at hs
    simp only [h, Int.lt_irrefl, if_true, if_false, show ∀ a b : Int, a < b → ¬ b < a from fun a b h => by omega] at hs
    subst hs
    try (have h' : ¬ x < y := by omega)
    go_enter Try.func48, Try.ntmps48
    go_wp2_with fail
    refine (nanI_c w _).mono ?_
    rintro e w' ⟨rfl, rfl⟩
    go_wp2_with fail
    refine (nanI_c w _).mono ?_
    rintro e w' ⟨rfl, rfl⟩
    go_wp2_with fail
    go_ret
    exact ⟨rfl, rfl⟩
/-- cmp.Or. -/
def orL : List Int → Int
  | [] => 0
  | x :: l => if x ≠ 0 then x else orL l
theorem orL_yes {l : List Int} {i : Nat} (hi : i < l.length) (h : l.getD i 0 ≠ 0) : orL (l.drop i) = l.getD i 0 := by
  rw [List.drop_eq_getElem_cons hi]
  have e : l.getD i 0 = l[i] := by rw [List.getD_eq_getElem?_getD, List.getElem?_eq_getElem hi]; rfl
  rw [e] at h ⊢
  exact if_pos h
theorem orL_no {l : List Int} {i : Nat} (hi : i < l.length) (h : l.getD i 0 = 0) : orL (l.drop i) = orL (l.drop (i + 1)) := by
  rw [List.drop_eq_getElem_cons hi]
  have e : l.getD i 0 = l[i] := by rw [List.getD_eq_getElem?_getD, List.getElem?_eq_getElem hi]; rfl
  rw [e] at h
  exact if_neg (by simpa using h)
set_option maxRecDepth 100000 in
theorem or_c (w : World) (B : Nat) (A : Option Addr) (c n : Nat) (l : List Int) (R : Rd w B A c 1 n (is l)) :
    Calls Try.prog 46 #[.slice A n c] w fun e w' => e = .returned (.int .i64 (orL l)) ∧ w = w' := by
  have hle := R.le
  have hcap := R.cap
  have hn : n ≤ 9223372036854775807 := by unfold maxLen at hcap; omega
  have hlen : l.length = n := by have := R.len; rw [is_length] at this; omega
  have HR := Lib.hid R
  have HL := Lib.hid hlen
  clear R hlen hle hcap
  go_enter Try.func46, Try.ntmps46
  go_wp2_with fail
  go_loopw [5, 8] (fun _ s8 wr => ∃ i : Nat, s8 = .int .i64 i ∧ i ≤ n ∧ Hid (orL l = orL (l.drop i)) ∧ wr = w) (fun _ s8 _ => n - (intOf s8).toNat)
  case atStart => exact ⟨0, rfl, by omega, Lib.hid rfl, rfl⟩
  case round =>
    obtain ⟨i, rfl, hi, HO, rfl⟩ := hrel
    by_cases hin : i < n
    · obtain ⟨b, o, rfl, -, k0⟩ := HR.out.at_ hin
      rw [is_getD l i (by rw [HL.out]; exact hin)] at k0
      obtain ⟨x, hx⟩ : ∃ x, l.getD i 0 = x := ⟨_, rfl⟩
      rw [hx] at k0
      have HX := Lib.hid hx
      clear hx
      by_cases h0 : x = 0
      · have HZ := Lib.hid (HO.out.trans (orL_no (by rw [HL.out]; exact hin) (HX.out.trans h0)))
        have n0 : (x != 0) = false := by rw [h0]; rfl
        clear h0 HO HX
        go_wp2_with fail
        go_roundw
        case rel => exact ⟨i + 1, by go_num, by omega, HZ, trivial⟩
        case measure => simp [intOf]; omega
      · have HZ := Lib.hid ((HO.out.trans (orL_yes (by rw [HL.out]; exact hin) (fun h => h0 (HX.out.symm.trans h)))).trans HX.out)
        have n0 : (x != 0) = true := by simpa using h0
        clear h0 HO HX
        go_wp2_with fail
        go_ret
        exact ⟨by rw [HZ.out]; rfl, rfl⟩
    · obtain rfl : i = n := by omega
      have e1 : l.drop i = [] := List.drop_of_length_le (by rw [HL.out]; omega)
      rw [e1] at HO
      go_wp2_with fail
      go_ret
      exact ⟨by rw [HO.out]; rfl, rfl⟩
end Go.Proofs.Ytheeigbljjcbpaa
