/- Contracts of package team: only, Has, With, Without, And, first, OnesCount, Len, mayCount, May, Most, Decider, Of. -/
import Derived.Test.YtgmjajfdliieoaaInt
import Derived.Test.YtgmjajfdliieoaaPlainTeam
import Derived.BigQuiet
import Derived.Deep.QuietTactic
namespace Go.Proofs.Ytgmjajfdliieoaa
open Go.RowKit

theorem i64_nat (a b : Nat) (ha : a < 9223372036854775808) (hb : b < 9223372036854775808) : bits .and .i64 (a : Int) (b : Int) = ((a &&& b : Nat) : Int) ∧ bits .or .i64 (a : Int) (b : Int) = ((a ||| b : Nat) : Int) :=
  bits_nat .i64 63 (by decide) (fun n h1 h2 => by rw [IntKind.wrap_i64]; omega) a b ha hb
theorem i64_bits (x : Int) (m : Nat) (hm : m < 9223372036854775808) : bits .andNot .i64 x (m : Int) = IntKind.i64.wrap (((x % 18446744073709551616).toNat &&& (2 ^ 64 - (m + 1)) : Nat) : Int) := by
  have h1 : (BitVec.ofInt 64 x).toNat = (x % 18446744073709551616).toNat := by rw [BitVec.toNat_ofInt]; rfl
  have h2 : (BitVec.ofInt 64 (m : Int)).toNat = m := by rw [BitVec.ofInt_natCast, BitVec.toNat_ofNat]; exact Nat.mod_eq_of_lt (by omega)
  show IntKind.i64.wrap ((BitVec.ofInt 64 x &&& ~~~BitVec.ofInt 64 (m : Int)).toNat : Int) = _
  rw [BitVec.toNat_and, BitVec.toNat_not, h1, h2]
  have e : 2 ^ 64 - 1 - m = 2 ^ 64 - (m + 1) := by omega
  rw [e]
theorem i64_without (t o : Nat) (ht : t < 128) (ho : o < 128) : bits .andNot .i64 (t : Int) (o : Int) = ((t &&& (127 - o) : Nat) : Int) := by
  rw [i64_bits _ _ (by omega)]
  have e : ((t : Int) % 18446744073709551616).toNat = t := by omega
  rw [e]
  have key : (List.range 128).all (fun t => (List.range 128).all fun o => (t &&& (2 ^ 64 - (o + 1))) == (t &&& (127 - o))) = true := by decide +kernel
  have k1 := List.all_eq_true.1 (List.all_eq_true.1 key t (List.mem_range.2 ht)) o (List.mem_range.2 ho)
  simp only [beq_iff_eq] at k1
  rw [k1, IntKind.wrap_i64]
  have := PTeam.and_lt (127 - o) ht
  omega
theorem i64_may (t : Int) (n : Nat) (h1 : -9223372036854775808 ≤ t) (h2 : t ≤ 9223372036854775807) (hn : n ≤ 7) : (bits .andNot .i64 t ((2 ^ n - 1 : Nat) : Int) == 0) = decide (0 ≤ t ∧ t < 2 ^ n) := by
  have hp : 2 ^ n ≤ 128 := Nat.pow_le_pow_right (n := 2) (by decide) hn
  have hp0 : 0 < 2 ^ n := Nat.two_pow_pos n
  rw [i64_bits _ _ (by omega), IntKind.wrap_i64]
  have hx : (t % 18446744073709551616).toNat < 2 ^ 64 := by omega
  have hm := PTeam.mask_zero (t % 18446744073709551616).toNat n hx
  have hlt : (t % 18446744073709551616).toNat &&& (2 ^ 64 - ((2 ^ n - 1) + 1)) < 2 ^ 64 := Nat.lt_of_le_of_lt Nat.and_le_left hx
  generalize (t % 18446744073709551616).toNat &&& (2 ^ 64 - ((2 ^ n - 1) + 1)) = y at *
  have hc : ((2 : Int) ^ n) = ((2 ^ n : Nat) : Int) := by simp
  rw [hc]
  generalize 2 ^ n = p at *
  rw [Bool.eq_iff_iff]
  simp only [beq_iff_eq, decide_eq_true_eq]
  constructor
  · intro h
    have : y = 0 := by omega
    have := hm.1 this
    omega
  · rintro ⟨h3, h4⟩
    have : y = 0 := hm.2 (by omega)
    omega

theorem only_c (w : World) (id : Int) :
    Calls Try.prog 26 #[.int .i64 id] w fun e w' => e = .returned (.int .i64 (PTeam.one id : Nat)) ∧ w = w' := by
  by_cases h1 : id < 1
  · go_enter Try.func26, Try.ntmps26
    go_wp2
    go_ret
    exact ⟨by rw [PTeam.one_out (.inl h1)]; rfl, rfl⟩
  · by_cases h7 : 7 < id
    · go_enter Try.func26, Try.ntmps26
      go_wp2
      go_ret
      exact ⟨by rw [PTeam.one_out (.inr h7)]; rfl, rfl⟩
    · have hc : id = 1 ∨ id = 2 ∨ id = 3 ∨ id = 4 ∨ id = 5 ∨ id = 6 ∨ id = 7 := by omega
      rcases hc with rfl | rfl | rfl | rfl | rfl | rfl | rfl
      all_goals
        go_enter Try.func26, Try.ntmps26
        go_wp2
        go_ret
        exact ⟨rfl, rfl⟩

theorem Has_c (w : World) (t : Nat) (id : Int) (ht : t < 128) :
    Calls Try.prog 13 #[.int .i64 t, .int .i64 id] w fun e w' => e = .returned (.bool (PTeam.has t id)) ∧ w = w' := by
  have ho := PTeam.one_lt id
  have e1 := (i64_nat t (PTeam.one id) (by omega) (by omega)).1
  have e2 : (((t &&& PTeam.one id : Nat) : Int) != 0) = PTeam.has t id := by
    unfold PTeam.has
    rw [Bool.eq_iff_iff]; simp
  go_enter Try.func13, Try.ntmps13
  go_wp2_with fail
  refine (only_c w id).mono ?_
  rintro e w' ⟨rfl, rfl⟩
  go_wp2_with fail
  go_ret
  exact ⟨rfl, rfl⟩

theorem With_c (w : World) (t : Nat) (id : Int) (ht : t < 128) :
    Calls Try.prog 17 #[.int .i64 t, .int .i64 id] w fun e w' => e = .returned (.int .i64 (PTeam.wth t id : Nat)) ∧ w = w' := by
  have ho := PTeam.one_lt id
  have e1 := (i64_nat t (PTeam.one id) (by omega) (by omega)).2
  go_enter Try.func17, Try.ntmps17
  go_wp2_with fail
  refine (only_c w id).mono ?_
  rintro e w' ⟨rfl, rfl⟩
  go_wp2_with fail
  go_ret
  exact ⟨rfl, rfl⟩

theorem Without_c (w : World) (t : Nat) (id : Int) (ht : t < 128) :
    Calls Try.prog 18 #[.int .i64 t, .int .i64 id] w fun e w' => e = .returned (.int .i64 (PTeam.wout t id : Nat)) ∧ w = w' := by
  have ho := PTeam.one_lt id
  have e1 := i64_without t (PTeam.one id) ht ho
  go_enter Try.func18, Try.ntmps18
  go_wp2_with fail
  refine (only_c w id).mono ?_
  rintro e w' ⟨rfl, rfl⟩
  go_wp2_with fail
  go_ret
  exact ⟨rfl, rfl⟩

theorem And_c (w : World) (t u : Nat) (ht : t < 128) (hu : u < 128) :
    Calls Try.prog 19 #[.int .i64 t, .int .i64 u] w fun e w' => e = .returned (.int .i64 (t &&& u : Nat)) ∧ w = w' := by
  have e1 := (i64_nat t u (by omega) (by omega)).1
  go_enter Try.func19, Try.ntmps19
  go_wp2_with fail
  go_ret
  exact ⟨rfl, rfl⟩

theorem first_c (w : World) (n : Int) (h3 : 3 ≤ n) (h7 : n ≤ 7) :
    Calls Try.prog 28 #[.int .i64 n] w fun e w' => e = .returned (.int .i64 (2 ^ n.toNat - 1 : Nat)) ∧ w = w' := by
  have hc : n = 3 ∨ n = 4 ∨ n = 5 ∨ n = 6 ∨ n = 7 := by omega
  rcases hc with rfl | rfl | rfl | rfl | rfl
  all_goals
    go_enter Try.func28, Try.ntmps28
    go_wp2
    go_ret
    exact ⟨rfl, rfl⟩

theorem ones64_c (w : World) (t : Nat) (ht : t < 128) :
    Calls Try.prog 32 #[.int .u64 t] w fun e w' => e = .returned (.int .i64 (PTeam.cnt t : Nat)) ∧ w = w' := by
  go_enter Try.func32, Try.ntmps32
  go_wp2_with fail
  go_ret
  refine ⟨congrArg (fun x => Ending.returned (.int .i64 x)) ?_, rfl⟩
  clear w
  revert ht
  revert t
  decide +kernel

theorem ones_c (w : World) (t : Nat) (ht : t < 128) :
    Calls Try.prog 27 #[.int .u64 t] w fun e w' => e = .returned (.int .i64 (PTeam.cnt t : Nat)) ∧ w = w' := by
  go_enter Try.func27, Try.ntmps27
  go_wp2_with fail
  refine (ones64_c w t ht).mono ?_
  rintro e w' ⟨rfl, rfl⟩
  go_wp2_with fail
  go_ret
  exact ⟨rfl, rfl⟩

theorem Len_c (w : World) (t : Nat) (ht : t < 128) :
    Calls Try.prog 15 #[.int .i64 t] w fun e w' => e = .returned (.int .i64 (PTeam.cnt t : Nat)) ∧ w = w' := by
  have e1 : bits .and .i64 (t : Int) 127 = (t : Int) := by rw [i64_and127]; omega
  go_enter Try.func15, Try.ntmps15
  go_wp2_with fail
  refine (first_c w 7 (by omega) (by omega)).mono ?_
  rw [show ((2 ^ (7 : Int).toNat - 1 : Nat) : Int) = 127 from rfl]
  rintro e w' ⟨rfl, rfl⟩
  go_wp2_with fail
  refine (ones_c w t ht).mono ?_
  rintro e w' ⟨rfl, rfl⟩
  go_wp2_with fail
  go_ret
  exact ⟨rfl, rfl⟩

def okB (n : Int) : Bool := decide (3 ≤ n ∧ n ≤ 7)
theorem mayCount_c (w : World) (n : Int) :
    Calls Try.prog 30 #[.int .i64 n] w fun e w' => e = .returned (.bool (okB n)) ∧ w = w' := by
  have h : okB n = (decide (3 ≤ n) && decide (n ≤ 7)) := by unfold okB; exact Bool.decide_and _ _
  have H := Lib.hid h; clear h
  by_cases h3 : 3 ≤ n
  all_goals by_cases h7 : n ≤ 7
  all_goals
    go_enter Try.func30, Try.ntmps30
    go_wp2
    go_ret
    exact ⟨by rw [H.out]; simp [h3, h7], rfl⟩

theorem May_c (w : World) (t n : Int) (h1 : -9223372036854775808 ≤ t) (h2 : t ≤ 9223372036854775807) :
    Calls Try.prog 20 #[.int .i64 t, .int .i64 n] w fun e w' => e = .returned (.bool (PTeam.may t n)) ∧ w = w' := by
  have hm : PTeam.may t n = (okB n && decide (0 ≤ t ∧ t < 2 ^ n.toNat)) := rfl
  have HM := Lib.hid hm; clear hm
  cases hb : okB n
  · go_enter Try.func20, Try.ntmps20
    go_wp2_with fail
    refine (mayCount_c w n).mono ?_
    rintro e w' ⟨rfl, rfl⟩
    go_wp2_with fail
    go_ret
    exact ⟨by rw [HM.out, hb]; rfl, rfl⟩
  · have hb' := of_decide_eq_true hb
    have e1 := i64_may t n.toNat h1 h2 (by omega)
    go_enter Try.func20, Try.ntmps20
    go_wp2_with fail
    refine (mayCount_c w n).mono ?_
    rintro e w' ⟨rfl, rfl⟩
    go_wp2_with fail
    refine (first_c w n hb'.1 hb'.2).mono ?_
    rintro e w' ⟨rfl, rfl⟩
    go_wp2_with fail
    go_ret
    exact ⟨by rw [HM.out, hb, Bool.true_and, Bool.decide_and]; rfl, rfl⟩

theorem may_lt {t n : Int} (h : PTeam.may t n = true) : 3 ≤ n ∧ n ≤ 7 ∧ 0 ≤ t ∧ t < 128 := by
  unfold PTeam.may at h
  simp only [Bool.and_eq_true, decide_eq_true_eq] at h
  obtain ⟨⟨h3, h7⟩, h0, ht⟩ := h
  have hp : 2 ^ n.toNat ≤ 2 ^ 7 := Nat.pow_le_pow_right (n := 2) (by decide) (by omega)
  have : ((2 ^ n.toNat : Nat) : Int) = (2 : Int) ^ n.toNat := by simp
  omega

theorem Most_c (w : World) (t n : Int) (h1 : -9223372036854775808 ≤ t) (h2 : t ≤ 9223372036854775807) :
    Calls Try.prog 22 #[.int .i64 t, .int .i64 n] w fun e w' => e = .returned (.bool (PTeam.most t n)) ∧ w = w' := by
  have hm : PTeam.most t n = (PTeam.may t n && decide (n / 2 < (PTeam.cnt t.toNat : Int))) := rfl
  have HM := Lib.hid hm; clear hm
  cases hb : PTeam.may t n
  · go_enter Try.func22, Try.ntmps22
    go_wp2_with fail
    refine (May_c w t n h1 h2).mono ?_
    rintro e w' ⟨rfl, rfl⟩
    go_wp2_with fail
    go_ret
    exact ⟨by rw [HM.out, hb]; rfl, rfl⟩
  · obtain ⟨h3, h7, h0, ht⟩ := may_lt hb
    obtain ⟨k, rfl⟩ := Int.eq_ofNat_of_zero_le h0
    go_enter Try.func22, Try.ntmps22
    go_wp2_with fail
    refine (May_c w k n h1 h2).mono ?_
    rintro e w' ⟨rfl, rfl⟩
    go_wp2_with fail
    refine (Len_c w k (by omega)).mono ?_
    rintro e w' ⟨rfl, rfl⟩
    go_wp2_with fail
    go_ret
    exact ⟨by rw [HM.out, hb]; rfl, rfl⟩

theorem Decider_c (w : World) (v n : Int) (h1 : -9223372036854775808 ≤ v) (h2 : v ≤ 9223372036854775807) :
    Calls Try.prog 24 #[.int .i64 v, .int .i64 n] w fun e w' => e = .returned (.int .i64 (PTeam.decider v n)) ∧ w = w' := by
  by_cases hv : v < 1
  · have e0 : PTeam.decider v n = 0 := by unfold PTeam.decider; rw [if_pos (by omega)]
    have E := Lib.hid e0; clear e0
    go_enter Try.func24, Try.ntmps24
    go_wp2
    go_ret
    exact ⟨by rw [E.out]; rfl, rfl⟩
  cases hb : okB n
  · have hb' := of_decide_eq_false hb
    have e0 : PTeam.decider v n = 0 := by unfold PTeam.decider; rw [if_pos (by omega)]
    have E := Lib.hid e0; clear e0
    go_enter Try.func24, Try.ntmps24
    go_wp2_with fail
    refine (mayCount_c w n).mono ?_
    rintro e w' ⟨rfl, rfl⟩
    go_wp2_with fail
    go_ret
    exact ⟨by rw [E.out]; rfl, rfl⟩
  · have hb' := of_decide_eq_true hb
    have e0 : PTeam.decider v n = 1 + (v - 1) % n := by unfold PTeam.decider; rw [if_neg (by omega)]
    have E := Lib.hid e0; clear e0
    have hn0 : n ≠ 0 := by omega
    have q1 := Int.emod_nonneg (v - 1) hn0
    have q2 := Int.emod_lt_of_pos (v - 1) (show 0 < n by omega)
    go_enter Try.func24, Try.ntmps24
    go_wp2_with fail
    refine (mayCount_c w n).mono ?_
    rintro e w' ⟨rfl, rfl⟩
    obtain ⟨h3, h7⟩ := hb'
    go_wp2_with fail
    go_ret
    exact ⟨by rw [E.out]; rfl, rfl⟩

theorem Of_c (w : World) (B : Nat) (A : Option Addr) (c n : Nat) (l : List Int) (h : Rd w B A c 1 n (is l)) :
    Calls Try.prog 12 #[.slice A n c] w fun e w' => e = .returned (.int .i64 (PTeam.ofL l : Nat)) ∧ w = w' := by
  have hlen := h.ilen
  have HL := Lib.hid hlen; clear hlen
  have hle := h.le
  have hcap := h.cap
  unfold maxLen at hcap
  go_enter Try.func12, Try.ntmps12
  go_wp2
  go_loop [3, 5, 8] (fun s3 _ s8 => ∃ (k : Nat), k ≤ n ∧ s8 = .int .i64 k ∧ s3 = .int .i64 (PTeam.ofL (l.take k) : Nat)) (fun _ _ s8 => n - (intOf s8).toNat)
  case atStart => exact ⟨0, by omega, rfl, rfl⟩
  case round =>
    obtain ⟨k, hk, rfl, rfl⟩ := hrel
    by_cases hlt : k < n
    · obtain ⟨b, o, x, rfl, hc, hd, hx⟩ := h.int hlt
      have hsn : PTeam.ofL (l.take (k + 1)) = PTeam.wth (PTeam.ofL (l.take k)) x := by
        have hk' : k < l.length := by rw [HL.out]; exact hlt
        rw [List.take_succ_eq_append_getElem hk']
        unfold PTeam.ofL
        rw [List.foldl_append]
        have : x = l[k] := by rw [hx]; simp [List.getD, List.getElem?_eq_getElem hk']
        rw [this]; rfl
      have HS := Lib.hid hsn; clear hsn hd hx
      have ht := PTeam.ofL_lt (l.take k)
      go_wp2_with fail
      refine (With_c w _ x ht).mono ?_
      rintro e w' ⟨rfl, rfl⟩
      go_wp2_with fail
      go_round
      case rel => exact ⟨k + 1, by omega, by go_num, by rw [HS.out]⟩
      case measure => simp [intOf]; omega
    · go_wp2
      go_ret
      exact ⟨by rw [List.take_of_length_le (by rw [HL.out]; omega)]; rfl, rfl⟩

end Go.Proofs.Ytgmjajfdliieoaa
