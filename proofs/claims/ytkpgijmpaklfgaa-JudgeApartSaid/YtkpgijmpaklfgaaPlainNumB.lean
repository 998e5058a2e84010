/- Plain mathematics: numbers and texts that are cut off; many numbers. -/
import Derived.Test.YtkpgijmpaklfgaaPlainNum
namespace Go.Proofs.Ytkpgijmpaklfgaa.PNum

theorem getB_cut : ∀ (f u i a j : Nat), (sev u).length ≤ f → i + (sev u).length ≤ 10 → j < (sev u).length → getB i a ((sev u).take j) = (0, 0, 2) := by
  intro f
  induction f with
  | zero => intro u i a j h; have := sev_pos u; omega
  | succ f ih =>
    intro u i a j hf hi hj
    cases j with
    | zero => simp [getB]
    | succ j =>
      rcases Nat.lt_or_ge u 128 with h | h
      · rw [sev_lo h] at hj; simp at hj
      · rw [sev_hi h] at hf hi hj ⊢
        simp only [List.length_cons] at hf hi hj
        simp only [List.take_succ_cons, getB]
        rw [if_neg (by omega), if_neg (by omega)]
        exact ih _ _ _ j (by omega) (by omega) (by omega)

theorem getT_put (n : Nat) (s r : List Int) (hs : s.length = n) (hn : n ≤ 65536) : getT (sev (zig n) ++ s ++ r) = (s, ((sev (zig n)).length : Int) + n, 0) := by
  have h := getB_put (n : Int) (s ++ r) (by omega) (by omega)
  rw [← List.append_assoc] at h
  unfold getT
  rw [h, if_pos rfl, if_neg (by simp; omega)]
  have hl : (sev (zig (n : Int)) ++ s ++ r).length = (sev (zig (n : Int))).length + n + r.length := by simp [hs]; omega
  rw [if_neg (by rw [hl]; show ¬ _ < ((sev (zig (n : Int))).length : Int) + (n : Int); omega)]
  simp [← hs]

theorem getT_cut (n j : Nat) (s : List Int) (hs : s.length = n) (hn : n ≤ 65536) (hj : j < (sev (zig n)).length + n) : getT ((sev (zig n) ++ s).take j) = ([], 0, 2) := by
  have hz : zig (n : Int) < 18446744073709551616 := zig_lt _ (by omega) (by omega)
  have ht := sev_ten _ hz
  by_cases hlt : j < (sev (zig (n : Int))).length
  · have h := getB_cut 10 (zig (n : Int)) 0 0 j ht (by omega) hlt
    rw [List.take_append_of_le_length (by omega)]
    unfold getT
    rw [h]
    rfl
  · have e : (sev (zig (n : Int)) ++ s).take j = sev (zig (n : Int)) ++ s.take (j - (sev (zig (n : Int))).length) := by
      rw [List.take_append, List.take_of_length_le (by omega)]
    have h := getB_put (n : Int) (s.take (j - (sev (zig (n : Int))).length)) (by omega) (by omega)
    rw [e]
    unfold getT
    rw [h, if_pos rfl, if_neg (by simp; omega)]
    have hl : (sev (zig (n : Int)) ++ s.take (j - (sev (zig (n : Int))).length)).length = j := by simp; omega
    rw [if_pos (by rw [hl]; show _ < ((sev (zig (n : Int))).length : Int) + (n : Int); omega)]

end Go.Proofs.Ytkpgijmpaklfgaa.PNum
