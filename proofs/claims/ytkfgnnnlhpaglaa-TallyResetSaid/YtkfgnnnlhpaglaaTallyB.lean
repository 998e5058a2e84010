/- Contracts: the methods of a tally. -/
import Derived.Test.YtkfgnnnlhpaglaaTallyA
namespace Go.Proofs.Ytkfgnnnlhpaglaa
open Go.RowKit

theorem counting_nil (w : World) (k : Int) :
    Calls Try.prog 13 #[.pointer none, .int .i64 k] w fun e w' => e = .returned (.bool false) ∧ w = w' := by
  go_enter Try.func13, Try.ntmps13
  go_wp2
  go_ret
  exact ⟨rfl, rfl⟩

theorem counting_c (w : World) (g : Nat) (z : List Int) (h : Tl w g z) (k : Int) :
    Calls Try.prog 13 #[.pointer (some ⟨g, 0, none⟩), .int .i64 k] w fun e w' => e = .returned (.bool (PTally.inn k)) ∧ w = w' := by
  have hc := h.cell (i := 0) (by omega)
  have hk : PTally.inn k = (decide (0 ≤ k) && decide (k < 16)) := Bool.decide_and _ _
  have HK := Lib.hid hk; clear hk h
  by_cases h0 : 0 ≤ k
  all_goals by_cases h1 : k < 16
  all_goals
    go_enter Try.func13, Try.ntmps13
    go_wp2
    go_ret
    exact ⟨by rw [HK.out]; simp [h0, h1], rfl⟩

theorem tAdd_nil (w : World) (k : Int) :
    Calls Try.prog 9 #[.pointer none, .int .i64 k] w fun e w' => e = .returned (.int .i64 0) ∧ w = w' := by
  go_enter Try.func9, Try.ntmps9
  go_wp2_with fail
  refine (counting_nil w k).mono ?_
  rintro e w' ⟨rfl, rfl⟩
  go_wp2_with fail
  go_ret
  exact ⟨rfl, rfl⟩

theorem tGet_nil (w : World) (k : Int) :
    Calls Try.prog 10 #[.pointer none, .int .i64 k] w fun e w' => e = .returned (.int .i64 0) ∧ w = w' := by
  go_enter Try.func10, Try.ntmps10
  go_wp2_with fail
  refine (counting_nil w k).mono ?_
  rintro e w' ⟨rfl, rfl⟩
  go_wp2_with fail
  go_ret
  exact ⟨rfl, rfl⟩

theorem tSum_nil (w : World) :
    Calls Try.prog 11 #[.pointer none] w fun e w' => e = .returned (.int .i64 0) ∧ w = w' := by
  go_enter Try.func11, Try.ntmps11
  go_wp2_with fail
  go_ret
  exact ⟨rfl, rfl⟩

theorem tReset_nil (w : World) :
    Calls Try.prog 8 #[.pointer none] w fun e w' => e = .returned (.int .i64 0) ∧ w = w' := by
  go_enter Try.func8, Try.ntmps8
  go_wp2_with fail
  go_ret
  exact ⟨rfl, rfl⟩

theorem tGet_c (w : World) (g : Nat) (z : List Int) (h : Tl w g z) (k : Int) :
    Calls Try.prog 10 #[.pointer (some ⟨g, 0, none⟩), .int .i64 k] w fun e w' => e = .returned (.int .i64 (PTally.get z k)) ∧ w = w' := by
  cases hk : PTally.inn k
  · have H := Lib.hid (PTally.get_out (z := z) hk)
    have HK := Lib.hid hk; clear hk
    go_enter Try.func10, Try.ntmps10
    go_wp2_with fail
    refine (counting_c w g z h k).mono ?_
    rw [HK.out]
    rintro e w' ⟨rfl, rfl⟩
    go_wp2_with fail
    go_ret
    exact ⟨by rw [H.out]; rfl, rfl⟩
  · have hk' := of_decide_eq_true hk
    obtain ⟨i, rfl⟩ := Int.eq_ofNat_of_zero_le hk'.1
    have hi : i < 16 := by omega
    have e1 : PTally.get z (i : Int) = z.getD i 0 := by unfold PTally.get; rw [if_pos hk, Int.toNat_natCast]
    have H := Lib.hid e1
    have HK := Lib.hid hk; clear hk hk' e1
    have hc := h.cell hi
    go_enter Try.func10, Try.ntmps10
    go_wp2_with fail
    refine (counting_c w g z h i).mono ?_
    rw [HK.out]
    rintro e w' ⟨rfl, rfl⟩
    go_wp2_with fail
    refine (aLoad_c w g i _ hc).mono ?_
    rintro e w' ⟨rfl, rfl⟩
    go_wp2_with fail
    go_ret
    exact ⟨by rw [H.out]; rfl, rfl⟩

theorem tAdd_c (w : World) (g : Nat) (z : List Int) (h : Tl w g z) (m : Int) (hz : PTally.ok z m) (hm : m ≤ 1000) (k : Int) :
    Calls Try.prog 9 #[.pointer (some ⟨g, 0, none⟩), .int .i64 k] w fun e w' => e = .returned (.int .i64 (PTally.get (PTally.add z k) k)) ∧ Tl w' g (PTally.add z k) ∧ w.grownBy w' (some g) := by
  cases hk : PTally.inn k
  · have H := Lib.hid (PTally.get_out (z := z) hk)
    have H2 := Lib.hid (PTally.add_out (z := z) hk)
    have HK := Lib.hid hk; clear hk
    go_enter Try.func9, Try.ntmps9
    go_wp2_with fail
    refine (counting_c w g z h k).mono ?_
    rw [HK.out]
    rintro e w' ⟨rfl, rfl⟩
    go_wp2_with fail
    go_ret
    exact ⟨by rw [H2.out, H.out]; rfl, by rw [H2.out]; exact h, World.grownBy.refl _ _⟩
  · have hk' := of_decide_eq_true hk
    have e1 := PTally.get_add hz hk
    obtain ⟨i, rfl⟩ := Int.eq_ofNat_of_zero_le hk'.1
    rw [Int.toNat_natCast] at e1
    have hi : i < 16 := by omega
    have e2 : PTally.add z (i : Int) = z.set i (z.getD i 0 + 1) := by unfold PTally.add; rw [if_pos hk, Int.toNat_natCast]
    have hg := PTally.getD_le hz.2.1 i
    have hs := hz.2.2
    have H := Lib.hid e1
    have H2 := Lib.hid e2
    have hc := h.cell hi
    have hf := h.2.free i
    have hset := h.set i (z.getD i 0 + 1)
    generalize z.getD i 0 = x at *
    have HK := Lib.hid hk; clear hk hk' e1 e2 hz
    go_enter Try.func9, Try.ntmps9
    go_wp2_with fail
    refine (counting_c w g z h i).mono ?_
    rw [HK.out]
    rintro e w' ⟨rfl, rfl⟩
    go_wp2_with fail
    refine (aAdd_c w g i x 1 (x + 1) hc hf rfl (by omega) (by omega)).mono ?_
    rintro e w' ⟨rfl, rfl⟩
    go_wp2_with fail
    go_ret
    exact ⟨by rw [H.out]; rfl, by rw [H2.out]; exact hset, grown_set _ _ _ _⟩

theorem tSum_c (w : World) (g : Nat) (z : List Int) (h : Tl w g z) (m : Int) (hz : PTally.ok z m) (hm : m ≤ 1000) :
    Calls Try.prog 11 #[.pointer (some ⟨g, 0, none⟩)] w fun e w' => e = .returned (.int .i64 z.sum) ∧ w = w' := by
  have hs := hz.2.2
  have HZ := Lib.hid hz; clear hz
  have hc0 := h.cell (i := 0) (by omega)
  go_enter Try.func11, Try.ntmps11
  go_wp2_with fail
  go_loop [3, 4, 7] (fun s3 _ s7 => ∃ k : Nat, k ≤ 16 ∧ s7 = .int .i64 k ∧ s3 = .int .i64 (z.take k).sum) (fun _ _ s7 => 16 - (intOf s7).toNat)
  case atStart => exact ⟨0, by omega, rfl, by simp⟩
  case round =>
    obtain ⟨k, hk, rfl, rfl⟩ := hrel
    have hl := PTally.sum_take_le HZ.out.2.1 k
    by_cases hlt : k < 16
    · have hc := h.cell hlt
      have hn := PTally.take_succ_sum z k (by rw [HZ.out.1]; exact hlt)
      have hl2 := PTally.sum_take_le HZ.out.2.1 (k + 1)
      rw [hn] at hl2
      have HN := Lib.hid hn; clear hn
      generalize (z.take k).sum = t at *
      generalize z.getD k 0 = x at *
      go_wp2_with fail
      refine (aLoad_c w g k x hc).mono ?_
      rintro e w' ⟨rfl, rfl⟩
      go_wp2_with fail
      go_round
      case rel => exact ⟨k + 1, by omega, by go_num, by rw [HN.out]⟩
      case measure => simp [intOf]; omega
    · obtain rfl : k = 16 := by omega
      go_wp2
      go_ret
      exact ⟨by rw [List.take_of_length_le (by rw [HZ.out.1]; omega)]; rfl, rfl⟩

/-- After k resets. -/
def rst (z : List Int) (k : Nat) : List Int := List.replicate k 0 ++ z.drop k
theorem rst_len (z : List Int) (k : Nat) (hz : z.length = 16) (hk : k ≤ 16) : (rst z k).length = 16 := by simp [rst]; omega
theorem rst_getD (z : List Int) (k : Nat) : (rst z k).getD k 0 = z.getD k 0 := by
  simp only [rst, List.getD]
  rw [List.getElem?_append_right (by simp), List.length_replicate, Nat.sub_self, List.getElem?_drop, Nat.add_zero]
theorem rst_succ (z : List Int) (k : Nat) (h : k < z.length) : (rst z k).set k 0 = rst z (k + 1) := by
  unfold rst
  rw [List.set_append_right _ _ (by simp), List.length_replicate, Nat.sub_self, List.drop_eq_getElem_cons h, List.set_cons_zero, List.replicate_succ', List.append_assoc]
  rfl

theorem tReset_c (w : World) (g : Nat) (z : List Int) (h : Tl w g z) (m : Int) (hz : PTally.ok z m) (hm : m ≤ 1000) :
    Calls Try.prog 8 #[.pointer (some ⟨g, 0, none⟩)] w fun e w' => e = .returned (.int .i64 z.sum) ∧ Tl w' g PTally.zero ∧ w.grownBy w' (some g) := by
  have hs := hz.2.2
  have HZ := Lib.hid hz; clear hz
  have hc0 := h.cell (i := 0) (by omega)
  go_enter Try.func8, Try.ntmps8
  go_wp2_with fail
  clear hc0
  go_loopw [3, 4, 7] (fun s3 _ s7 wr => ∃ k : Nat, k ≤ 16 ∧ s7 = .int .i64 k ∧ s3 = .int .i64 (z.take k).sum ∧ Tl wr g (rst z k) ∧ w.grownBy wr (some g)) (fun _ _ s7 _ => 16 - (intOf s7).toNat)
  case atStart => exact ⟨0, by omega, rfl, by simp, by simpa [rst] using h, World.grownBy.refl _ _⟩
  case round =>
    obtain ⟨k, hk, rfl, rfl, hT, hG⟩ := hrel
    have hl := PTally.sum_take_le HZ.out.2.1 k
    have hc0 := hT.cell (i := 0) (by omega)
    by_cases hlt : k < 16
    · have hc := hT.cell hlt
      rw [rst_getD] at hc
      have hset := hT.set k 0
      rw [rst_succ z k (by rw [HZ.out.1]; exact hlt)] at hset
      have hf := hT.2.free k
      have hn := PTally.take_succ_sum z k (by rw [HZ.out.1]; exact hlt)
      have hl2 := PTally.sum_take_le HZ.out.2.1 (k + 1)
      rw [hn] at hl2
      have HN := Lib.hid hn; clear hn
      generalize (z.take k).sum = t at *
      generalize z.getD k 0 = x at *
      go_wp2_with fail
      refine (aSwap_c wr g k x 0 hc hf).mono ?_
      rintro e w' ⟨rfl, rfl⟩
      go_wp2_with fail
      go_roundw
      case rel => exact ⟨k + 1, by omega, by go_num, by rw [HN.out], hset, hG.trans (grown_set _ _ _ _)⟩
      case measure => simp [intOf]; omega
    · obtain rfl : k = 16 := by omega
      go_wp2
      go_ret
      refine ⟨by rw [List.take_of_length_le (by rw [HZ.out.1]; omega)]; rfl, ?_, hG⟩
      have e : rst z 16 = PTally.zero := by unfold rst PTally.zero; rw [List.drop_of_length_le (by rw [HZ.out.1]; omega), List.append_nil]
      rw [← e]; exact hT

end Go.Proofs.Ytkfgnnnlhpaglaa
