/- Contract of num.Get. -/
import Derived.Test.YtkdcafigcodbgaaDoorNumU
namespace Go.Proofs.YtkdcafigcodbgaaDoor
open Go.RowKit

/-- A number, how many bytes, an error, as Go hands them back. -/
def tup3 (r : Int × Int × Int) : Value := .tuple #[.int .i64 r.1, .int .i64 r.2.1, .int .i64 r.2.2]

theorem and_lo (x : Int) (h0 : 0 ≤ x) (h : x < 128) : bits BinOp.and IntKind.u8 x 128 = 0 := by
  rw [u8_and _ _ h0 (by omega) (by omega) (by omega), show (128 : Int).toNat = 128 from rfl, nat_bit7]; omega
theorem and_hi (x : Int) (h0 : 128 ≤ x) (h : x < 256) : bits BinOp.and IntKind.u8 x 128 = 128 := by
  rw [u8_and _ _ (by omega) h (by omega) (by omega), show (128 : Int).toNat = 128 from rfl, nat_bit7]; omega
theorem andNot_ (x : Int) (h0 : 0 ≤ x) (h : x < 256) : bits BinOp.andNot IntKind.u8 x 128 = ((x.toNat % 128 : Nat) : Int) := by
  rw [u8_andNot _ _ h0 h (by omega) (by omega), show (255 - (128 : Int).toNat) = 127 from rfl, nat_mask7]
theorem gather (acc i : Nat) (x : Int) (h0 : 0 ≤ x) (h : x < 256) (hi : i ≤ 9) (ha : acc < 128 ^ i) (hb : (x.toNat % 128) * 128 ^ i < 18446744073709551616) :
    bits BinOp.or IntKind.u64 (acc : Int) (IntKind.u64.wrap (IntKind.u64.wrap (bits BinOp.andNot IntKind.u8 x 128) * 2 ^ (7 * i))) = ((acc + (x.toNat % 128) * 128 ^ i : Nat) : Int) := by
  rw [andNot_ x h0 h]
  have hy : x.toNat % 128 < 128 := Nat.mod_lt _ (by decide)
  generalize x.toNat % 128 = y at hb hy
  have e : (2 : Nat) ^ (7 * i) = 128 ^ i := by rw [Nat.pow_mul]
  have h9 : (128 : Nat) ^ i ≤ 128 ^ 9 := Nat.pow_le_pow_right (by decide) hi
  have h99 : (128 : Nat) ^ 9 = 9223372036854775808 := by decide
  have e1 : IntKind.u64.wrap (y : Int) = y := by rw [IntKind.wrap_u64]; omega
  have e2 : (y : Int) * 2 ^ (7 * i) = ((y * 128 ^ i : Nat) : Int) := by rw [← e]; push_cast; rfl
  have e3 : IntKind.u64.wrap ((y * 128 ^ i : Nat) : Int) = ((y * 128 ^ i : Nat) : Int) := by rw [IntKind.wrap_u64]; omega
  rw [e1, e2, e3, u64_or_nat _ _ (by omega) hb, Nat.or_comm, nat_join (7 * i) _ _ (by rw [e]; exact Nat.mul_mod_left _ _) (by rw [e]; exact ha), Nat.add_comm]

theorem acc_next (acc i : Nat) (x : Int) (ha : acc < 128 ^ i) : acc + (x.toNat % 128) * 128 ^ i < 128 ^ (i + 1) := by
  have hy : x.toNat % 128 < 128 := Nat.mod_lt _ (by decide)
  rw [Nat.pow_succ]
  have := Nat.mul_le_mul_right (128 ^ i) (Nat.le_of_lt_succ hy : x.toNat % 128 ≤ 127)
  omega
theorem room (i : Nat) (x : Int) (hi : i ≤ 9) (h9 : ¬ (i = 9 ∧ 1 < x)) : (x.toNat % 128) * 128 ^ i < 18446744073709551616 := by
  have hy : x.toNat % 128 < 128 := Nat.mod_lt _ (by decide)
  by_cases e : i = 9
  · subst e
    have : x.toNat % 128 ≤ 1 := by omega
    have := Nat.mul_le_mul_right (128 ^ 9) this
    omega
  · have h8 : (128 : Nat) ^ i ≤ 128 ^ 8 := Nat.pow_le_pow_right (by decide) (by omega)
    have := Nat.mul_le_mul (Nat.le_of_lt_succ hy : x.toNat % 128 ≤ 127) h8
    omega

theorem accU (acc i : Nat) (x : Int) (hi : i ≤ 9) (h9 : ¬ (i = 9 ∧ 1 < x)) (ha : acc < 128 ^ i) : acc + (x.toNat % 128) * 128 ^ i < 18446744073709551616 := by
  by_cases e : i = 9
  · subst e
    have : x.toNat % 128 ≤ 1 := by omega
    have := Nat.mul_le_mul_right (128 ^ 9) this
    omega
  · have := acc_next acc i x ha
    have h8 : (128 : Nat) ^ (i + 1) ≤ 128 ^ 9 := Nat.pow_le_pow_right (by decide) (by omega)
    omega

set_option maxRecDepth 100000 in
theorem Get_c (w : World) (B : Nat) (A : Option Addr) (c n : Nat) (l : List Int) (h : Rd w B A c 1 n (bs l)) (hb : isB l) :
    Calls Tryd.prog 31 #[.slice A n c] w fun e w' => e = .returned (tup3 (PNum.getB 0 0 l)) ∧ w = w' := by
  have hlen := h.blen
  have HL := Lib.hid hlen; clear hlen
  have hm := h.le
  have hm2 := h.cap
  have hn : n ≤ 9223372036854775807 := by unfold maxLen at hm2; omega
  clear hm hm2
  go_enter Tryd.func31, Tryd.ntmps31
  go_wp2
  go_loop [5, 10] (fun s5 s10 => ∃ (i acc : Nat), s5 = .int .u64 acc ∧ s10 = .int .i64 i ∧ i ≤ n ∧ i ≤ 9 ∧ acc < 128 ^ i ∧ PNum.getB i acc (l.drop i) = PNum.getB 0 0 l)
    (fun _ s10 => n - (intOf s10).toNat)
  case atStart => exact ⟨0, 0, rfl, rfl, by omega, by omega, by decide, rfl⟩
  case round =>
    obtain ⟨i, acc, rfl, rfl, hi, hi9, hacc, hg⟩ := hrel
    have HG := Lib.hid hg; clear hg
    have HA := Lib.hid hacc; clear hacc
    by_cases hlt : i < n
    · obtain ⟨b, o, x, rfl, hc, hd, hx0, hx1, hxl⟩ := h.byte hb hlt
      clear hxl
      have HD := Lib.hid hd; clear hd
      by_cases h9 : i = 9 ∧ 1 < x
      · obtain ⟨rfl, h1⟩ := h9
        go_wp2
        go_ret3
        refine ⟨?_, rfl⟩
        rw [← HG.out, HD.out, PNum.getB, if_pos ⟨rfl, h1⟩]; rfl
      · have HJ := Lib.hid h9
        have hj := gather acc i x hx0 hx1 hi9 HA.out (room i x hi9 h9)
        by_cases h128 : x < 128
        · have hz := and_lo x hx0 h128
          have hU := accU acc i x hi9 h9 HA.out
          have HU := Lib.hid hU; clear hU h9
          by_cases h0 : x = 0 ∧ 0 < i
          · obtain ⟨rfl, h1⟩ := h0
            by_cases e9 : i = 9
            · have t9 : ((i : Int) == 9) = true := by simp; omega
              have E9 := Lib.hid e9; clear e9
              go_wp2
              go_ret3
              refine ⟨?_, rfl⟩
              rw [← HG.out, HD.out, PNum.getB, if_neg (by omega), if_pos (by omega), if_pos ⟨rfl, h1⟩]; rfl
            · have t9 : ((i : Int) == 9) = false := by simp; omega
              go_wp2
              go_ret3
              refine ⟨?_, rfl⟩
              rw [← HG.out, HD.out, PNum.getB, if_neg (by omega), if_pos (by omega), if_pos ⟨rfl, h1⟩]; rfl
          · have fin : PNum.getB 0 0 l = (PNum.unzig (acc + x.toNat % 128 * 128 ^ i), (i : Int) + 1, 0) := by
              rw [← HG.out, HD.out, PNum.getB, if_neg HJ.out, if_pos h128, if_neg h0]
              have : x.toNat % 128 = x.toNat := by omega
              rw [this]
            have FIN := Lib.hid fin; clear fin
            generalize acc + x.toNat % 128 * 128 ^ i = U at *
            by_cases e9 : i = 9
            · have t9 : ((i : Int) == 9) = true := by simp; omega
              have hx : ¬ 1 < x := by have := HJ.out; omega
              have E9 := Lib.hid e9; clear e9
              have t0 : (x == 0) = false := by have := E9.out; simp; omega
              go_wp2_with fail
              refine (unfold_c U w HU.out).mono ?_
              rintro e w' ⟨rfl, rfl⟩
              go_wp2
              go_ret3
              exact ⟨by rw [FIN.out]; rfl, rfl⟩
            · have t9 : ((i : Int) == 9) = false := by simp; omega
              by_cases e0 : x = 0
              · have t0 : (x == 0) = true := by simp; omega
                have i0 : ¬ 0 < i := by omega
                have E0 := Lib.hid e0; clear e0 h0
                go_wp2_with fail
                refine (unfold_c U w HU.out).mono ?_
                rintro e w' ⟨rfl, rfl⟩
                go_wp2
                go_ret3
                exact ⟨by rw [FIN.out]; rfl, rfl⟩
              · have t0 : (x == 0) = false := by simp; omega
                clear h0
                go_wp2_with fail
                refine (unfold_c U w HU.out).mono ?_
                rintro e w' ⟨rfl, rfl⟩
                go_wp2
                go_ret3
                exact ⟨by rw [FIN.out]; rfl, rfl⟩
        · have hz := and_hi x (by omega) hx1
          have t9 : ((i : Int) == 9) = false := by simp; omega
          have nxt := acc_next acc i x HA.out
          have fin : PNum.getB (i + 1) (acc + x.toNat % 128 * 128 ^ i) (l.drop (i + 1)) = PNum.getB 0 0 l := by
            rw [← HG.out, HD.out, PNum.getB, if_neg h9, if_neg h128]
            have : x.toNat % 128 = x.toNat - 128 := by omega
            rw [this]
          have FIN := Lib.hid fin; clear fin
          have NXT := Lib.hid nxt; clear nxt h9
          generalize acc + x.toNat % 128 * 128 ^ i = U at *
          go_wp2
          go_round
          case rel => exact ⟨i + 1, U, rfl, by go_num, by omega, by have := HJ.out; omega, NXT.out, FIN.out⟩
          case measure => simp [intOf]; omega
    · go_wp2
      go_ret3
      refine ⟨?_, rfl⟩
      have h1 := HG.out
      rw [List.drop_of_length_le (by have := HL.out; omega)] at h1
      rw [← h1]; rfl

end Go.Proofs.YtkdcafigcodbgaaDoor
