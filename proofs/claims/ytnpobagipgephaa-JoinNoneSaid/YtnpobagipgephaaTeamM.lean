/- Contracts of package team: first, mayCount, May. -/
import Derived.Test.YtnpobagipgephaaInt
import Derived.Test.YtnpobagipgephaaPlainTeam
import Derived.BigQuiet
import Derived.Deep.QuietTactic
namespace Go.Proofs.Ytnpobagipgephaa
open Go.RowKit

theorem i64_nat (a b : Nat) (ha : a < 9223372036854775808) (hb : b < 9223372036854775808) : bits .and .i64 (a : Int) (b : Int) = ((a &&& b : Nat) : Int) ∧ bits .or .i64 (a : Int) (b : Int) = ((a ||| b : Nat) : Int) :=
  bits_nat .i64 63 (by decide) (fun n h1 h2 => by rw [IntKind.wrap_i64]; omega) a b ha hb
theorem i64_bits (x : Int) (m : Nat) (hm : m < 9223372036854775808) : bits .andNot .i64 x (m : Int) = IntKind.i64.wrap (((x % 18446744073709551616).toNat &&& (2 ^ 64 - (m + 1)) : Nat) : Int) := by
  have h1 : (BitVec.ofInt 64 x).toNat = (x % 18446744073709551616).toNat := by rw [BitVec.toNat_ofInt]; rfl
  have h2 : (BitVec.ofInt 64 (m : Int)).toNat = m := by rw [BitVec.ofInt_natCast, BitVec.toNat_ofNat]; exact Nat.mod_eq_of_lt (by omega)
  show IntKind.i64.wrap ((BitVec.ofInt 64 x &&& ~~~BitVec.ofInt 64 (m : Int)).toNat : Int) = _
  rw [BitVec.toNat_and, BitVec.toNat_not, h1, h2]
  have e : 2 ^ 64 - 1 - m = 2 ^ 64 - (m + 1) := by omega
  rw [e]
theorem i64_without (t o : Nat) (ht : t < 128) (ho : o < 128) : bits .andNot .i64 (t : Int) (o : Int) = ((t &&& (127 - o) : Nat) : Int) := by
  rw [i64_bits _ _ (by omega)]
  have e : ((t : Int) % 18446744073709551616).toNat = t := by omega
  rw [e]
  have key : (List.range 128).all (fun t => (List.range 128).all fun o => (t &&& (2 ^ 64 - (o + 1))) == (t &&& (127 - o))) = true := by decide +kernel
  have k1 := List.all_eq_true.1 (List.all_eq_true.1 key t (List.mem_range.2 ht)) o (List.mem_range.2 ho)
  simp only [beq_iff_eq] at k1
  rw [k1, IntKind.wrap_i64]
  have := PTeam.and_lt (127 - o) ht
  omega
theorem i64_may (t : Int) (n : Nat) (h1 : -9223372036854775808 ≤ t) (h2 : t ≤ 9223372036854775807) (hn : n ≤ 7) : (bits .andNot .i64 t ((2 ^ n - 1 : Nat) : Int) == 0) = decide (0 ≤ t ∧ t < 2 ^ n) := by
  have hp : 2 ^ n ≤ 128 := Nat.pow_le_pow_right (n := 2) (by decide) hn
  have hp0 : 0 < 2 ^ n := Nat.two_pow_pos n
  rw [i64_bits _ _ (by omega), IntKind.wrap_i64]
  have hx : (t % 18446744073709551616).toNat < 2 ^ 64 := by omega
  have hm := PTeam.mask_zero (t % 18446744073709551616).toNat n hx
  have hlt : (t % 18446744073709551616).toNat &&& (2 ^ 64 - ((2 ^ n - 1) + 1)) < 2 ^ 64 := Nat.lt_of_le_of_lt Nat.and_le_left hx
  generalize (t % 18446744073709551616).toNat &&& (2 ^ 64 - ((2 ^ n - 1) + 1)) = y at *
  have hc : ((2 : Int) ^ n) = ((2 ^ n : Nat) : Int) := by simp
  rw [hc]
  generalize 2 ^ n = p at *
  rw [Bool.eq_iff_iff]
  simp only [beq_iff_eq, decide_eq_true_eq]
  constructor
  · intro h
    have : y = 0 := by omega
    have := hm.1 this
    omega
  · rintro ⟨h3, h4⟩
    have : y = 0 := hm.2 (by omega)
    omega

theorem first_c (w : World) (n : Int) (h3 : 3 ≤ n) (h7 : n ≤ 7) :
    Calls Try.prog 21 #[.int .i64 n] w fun e w' => e = .returned (.int .i64 (2 ^ n.toNat - 1 : Nat)) ∧ w = w' := by
  have hc : n = 3 ∨ n = 4 ∨ n = 5 ∨ n = 6 ∨ n = 7 := by omega
  rcases hc with rfl | rfl | rfl | rfl | rfl
  all_goals
    go_enter Try.func21, Try.ntmps21
    go_wp2
    go_ret
    exact ⟨rfl, rfl⟩

def okB (n : Int) : Bool := decide (3 ≤ n ∧ n ≤ 7)
theorem mayCount_c (w : World) (n : Int) :
    Calls Try.prog 20 #[.int .i64 n] w fun e w' => e = .returned (.bool (okB n)) ∧ w = w' := by
  have h : okB n = (decide (3 ≤ n) && decide (n ≤ 7)) := by unfold okB; exact Bool.decide_and _ _
  have H := Lib.hid h; clear h
  by_cases h3 : 3 ≤ n
  all_goals by_cases h7 : n ≤ 7
  all_goals
    go_enter Try.func20, Try.ntmps20
    go_wp2
    go_ret
    exact ⟨by rw [H.out]; simp [h3, h7], rfl⟩

theorem tMay_c (w : World) (t n : Int) (h1 : -9223372036854775808 ≤ t) (h2 : t ≤ 9223372036854775807) :
    Calls Try.prog 13 #[.int .i64 t, .int .i64 n] w fun e w' => e = .returned (.bool (PTeam.may t n)) ∧ w = w' := by
  have hm : PTeam.may t n = (okB n && decide (0 ≤ t ∧ t < 2 ^ n.toNat)) := rfl
  have HM := Lib.hid hm; clear hm
  cases hb : okB n
  · go_enter Try.func13, Try.ntmps13
    go_wp2_with fail
    refine (mayCount_c w n).mono ?_
    rintro e w' ⟨rfl, rfl⟩
    go_wp2_with fail
    go_ret
    exact ⟨by rw [HM.out, hb]; rfl, rfl⟩
  · have hb' := of_decide_eq_true hb
    have e1 := i64_may t n.toNat h1 h2 (by omega)
    go_enter Try.func13, Try.ntmps13
    go_wp2_with fail
    refine (mayCount_c w n).mono ?_
    rintro e w' ⟨rfl, rfl⟩
    go_wp2_with fail
    refine (first_c w n hb'.1 hb'.2).mono ?_
    rintro e w' ⟨rfl, rfl⟩
    go_wp2_with fail
    go_ret
    exact ⟨by rw [HM.out, hb, Bool.true_and, Bool.decide_and]; rfl, rfl⟩

theorem may_lt {t n : Int} (h : PTeam.may t n = true) : 3 ≤ n ∧ n ≤ 7 ∧ 0 ≤ t ∧ t < 128 := by
  unfold PTeam.may at h
  simp only [Bool.and_eq_true, decide_eq_true_eq] at h
  obtain ⟨⟨h3, h7⟩, h0, ht⟩ := h
  have hp : 2 ^ n.toNat ≤ 2 ^ 7 := Nat.pow_le_pow_right (n := 2) (by decide) (by omega)
  have : ((2 ^ n.toNat : Nat) : Int) = (2 : Int) ^ n.toNat := by simp
  omega

end Go.Proofs.Ytnpobagipgephaa
