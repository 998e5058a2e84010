/- Contracts of package wheel: the comparison, due. -/
import Derived.Test.YtnpdhddnlcpaiaaWheelB
import Derived.Test.YtnpdhddnlcpaiaaSortF
namespace Go.Proofs.Ytnpdhddnlcpaiaa
open Go.RowKit

theorem nan_c (w : World) (a : Int) :
    Calls Try.prog 29 #[.int .i64 a] w fun e w' => e = .returned (.bool false) ∧ w = w' := by
  go_enter Try.func29, Try.ntmps29
  go_wp2_with fail
  go_ret
  exact ⟨rfl, rfl⟩

theorem compare_c (w : World) (a b : Int) :
    Calls Try.prog 25 #[.int .i64 a, .int .i64 b] w fun e w' => e = .returned (.int .i64 (PSort.cmp3 a b)) ∧ w' = w := by
  by_cases h1 : a < b
  · have H := Lib.hid (PSort.cmp3_lo h1)
    go_enter Try.func25, Try.ntmps25
    go_wp2_with fail
    refine (nan_c w a).mono ?_
    rintro e w' ⟨rfl, rfl⟩
    go_wp2_with fail
    refine (nan_c w b).mono ?_
    rintro e w' ⟨rfl, rfl⟩
    go_wp2_with fail
    go_ret
    exact ⟨by rw [H.out]; rfl, rfl⟩
  · by_cases h2 : b < a
    · have H := Lib.hid (show PSort.cmp3 a b = 1 by unfold PSort.cmp3; rw [if_neg h1, if_pos h2])
      go_enter Try.func25, Try.ntmps25
      go_wp2_with fail
      refine (nan_c w a).mono ?_
      rintro e w' ⟨rfl, rfl⟩
      go_wp2_with fail
      refine (nan_c w b).mono ?_
      rintro e w' ⟨rfl, rfl⟩
      go_wp2_with fail
      go_ret
      exact ⟨by rw [H.out]; rfl, rfl⟩
    · have H := Lib.hid (show PSort.cmp3 a b = 0 by unfold PSort.cmp3; rw [if_neg h1, if_neg h2])
      go_enter Try.func25, Try.ntmps25
      go_wp2_with fail
      refine (nan_c w a).mono ?_
      rintro e w' ⟨rfl, rfl⟩
      go_wp2_with fail
      refine (nan_c w b).mono ?_
      rintro e w' ⟨rfl, rfl⟩
      go_wp2_with fail
      go_ret
      exact ⟨by rw [H.out]; rfl, rfl⟩

theorem byTime_c (w : World) (B g : Nat) (now : Int) (T : List (Int × Bool)) (hB : Blk w B 24 [.pointer (some ⟨g, 0, none⟩)]) (h : Wl w g now T) (i j : Nat) (hi : i < 64) (hj : j < 64) :
    Calls Try.prog 24 #[.int .i64 i, .int .i64 j, .pointer (some ⟨B, 0, none⟩)] w fun e w' => e = .returned (.int .i64 (PSort.cmp3 (PWheel.tm T i).1 (PWheel.tm T j).1)) ∧ ∃ q, w' = w.drewN q := by
  have c0 := hB.cell (i := 0) rfl
  obtain ⟨c1, -⟩ := h.at_ hi
  obtain ⟨c2, -⟩ := h.at_ hj
  generalize (PWheel.tm T i).1 = x at *
  generalize (PWheel.tm T j).1 = y at *
  generalize hz : PSort.cmp3 x y = z
  have HZ := Lib.hid hz
  clear hz h hB
  have hc : ∀ w, Calls Try.prog 25 #[.int .i64 x, .int .i64 y] w fun e w' => e = .returned (.int .i64 z) ∧ ∃ q, w' = w.drewN q := fun w => by
    have := compare_c w x y
    rw [HZ.out] at this
    exact this.mono fun e w' h => ⟨h.1, 0, h.2⟩
  have zi : (i : Int) < 64 := by omega
  have zj : (j : Int) < 64 := by omega
  go_enter Try.func24, Try.ntmps24
  go_wp2_with fail
  go_quiet (first | (go_at_call 25; refine Calls.quiet_of (hc _)))
  go_wp2_with fail
  go_ret
  exact ⟨rfl, nq, rfl⟩

theorem insert_nil (w : World) (F : Value) :
    Calls Try.prog 30 #[.slice none 0 0, .int .i64 0, .int .i64 0, F] w fun e w' => e = .returned (.tuple #[]) ∧ w' = w := by
  go_enter Try.func30, Try.ntmps30
  go_wp2_with fail
  go_loopw [8] (fun s8 wr => s8 = .int .i64 1 ∧ wr = w) (fun s8 _ => 0)
  case atStart => exact ⟨rfl, rfl⟩
  case round =>
    obtain ⟨rfl, rfl⟩ := hrel
    go_wp2_with fail
    go_end0
    exact ⟨rfl, rfl⟩
theorem stable_nil (w : World) (F : Value) :
    Calls Try.prog 28 #[.slice none 0 0, .int .i64 0, F] w fun e w' => e = .returned (.tuple #[]) ∧ w' = w := by
  go_enter Try.func28, Try.ntmps28
  go_wp2_with fail
  go_loopw [7, 8] (fun s7 s8 wr => s7 = .int .i64 0 ∧ s8 = .int .i64 20 ∧ wr = w) (fun _ _ _ => 0)
  case atStart => exact ⟨rfl, rfl, rfl⟩
  case round =>
    obtain ⟨rfl, rfl, rfl⟩ := hrel
    go_wp2_with fail
    refine (insert_nil _ F).mono ?_
    rintro e w' ⟨rfl, rfl⟩
    go_wp2_with fail
    go_loopw [6] (fun s6 wr => s6 = .int .i64 20 ∧ wr = w') (fun _ _ => 0)
    case atStart => exact ⟨rfl, rfl⟩
    case round =>
      obtain ⟨rfl, rfl⟩ := hrel
      go_wp2_with fail
      go_end0
      exact ⟨rfl, rfl⟩
theorem sortStable_nil (w : World) (F : Value) :
    Calls Try.prog 23 #[.slice none 0 0, F] w fun e w' => e = .returned (.tuple #[]) ∧ w' = w := by
  go_enter Try.func23, Try.ntmps23
  go_wp2_with fail
  refine (stable_nil _ F).mono ?_
  rintro e w' ⟨rfl, rfl⟩
  go_wp2_with fail
  go_end0
  exact ⟨rfl, rfl⟩

/-- A row of the call's own, as the sort takes it, and back. -/
theorem own_sl {w : World} {base g n c : Nat} {L : List Int} (h : w.ownsRow base 3 1 (.slice (some ⟨g, 0, none⟩) n c) n (is L)) : n = L.length ∧ base ≤ g ∧ ∃ Z, Sl w g Z L ∧
    ∀ w' M, M.length = L.length → Sl w' g Z M → w'.ownsRow base 3 1 (.slice (some ⟨g, 0, none⟩) n c) n (is M) := by
  obtain ⟨h1, h2⟩ := h
  rw [is_length] at h1
  rcases h2 with ⟨h2, _⟩ | ⟨g', cap, cur, hv, hb, hh, hn, hc, hs, ht⟩
  · cases h2
  · cases hv
    have hcur : cur.toList = is L ++ cur.toList.drop L.length := by
      conv => lhs; rw [← List.take_append_drop (n * 1) cur.toList, ht]
      rw [h1]
    refine ⟨by omega, hb, cur.toList.drop L.length, ?_, fun w' M hM hS => ⟨by rw [is_length]; omega, .inr ⟨g, c, _, rfl, hb, hS, hn, hc, ?_, ?_⟩⟩⟩
    · show w.heap[g]? = _
      rw [hh, ← hcur]
    · have : cur.toList.length = c * 1 := by simpa using hs
      simp only [List.size_toArray, List.length_append, is_length, List.length_drop]
      omega
    · simp only
      rw [List.take_append_of_le_length (by rw [is_length]; omega), List.take_of_length_le (by rw [is_length]; omega)]

end Go.Proofs.Ytnpdhddnlcpaiaa
