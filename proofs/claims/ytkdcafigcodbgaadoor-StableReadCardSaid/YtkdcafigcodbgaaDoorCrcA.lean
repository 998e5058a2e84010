/- Contracts of the sums: crc.Sum. -/
import Derived.Test.YtkdcafigcodbgaaDoorRows
import Derived.Test.YtkdcafigcodbgaaDoorPlainCrc
import Derived.Test.YtkdcafigcodbgaaDoorKit
import Derived.Laws.BitsAllLaws
namespace Go.Proofs.YtkdcafigcodbgaaDoor
open Go.RowKit

/-- The table lies as its initialiser lays it. -/
def Tab (w : World) : Prop := ∀ j, j < 16 → w.cell? ⟨0, j, none⟩ = some (.int .u32 (PCrc.tab.getD j 0 : Nat))
theorem Tab.past {w w' : World} (h : Tab w) (hb : Below w.heap.size w w') : Tab w' := fun j hj => (hb.cell (p := ⟨_, j, none⟩) (World.block_lt_of_cell? w _ (h j hj))).trans (h j hj)

theorem Tab.in_ {w w' : World} {B : Nat} (h : Tab w) (hB : 0 < B) (hb : Below B w w') : Tab w' := fun j hj => (hb.cell (p := ⟨_, j, none⟩) hB).trans (h j hj)
theorem Tab.lt {w : World} (h : Tab w) : 0 < w.heap.size := World.block_lt_of_cell? w _ (h 0 (by omega))

theorem take_next {l : List Int} {i : Nat} {x : Int} (h : l.drop i = x :: l.drop (i + 1)) : l.take (i + 1) = l.take i ++ [x] := by
  have hi : i < l.length := by
    rcases Nat.lt_or_ge i l.length with h1 | h1
    · exact h1
    · rw [List.drop_eq_nil_of_le h1] at h; cases h
  rw [List.take_succ_eq_append_getElem hi]
  have := List.drop_eq_getElem_cons hi
  rw [this] at h; injection h with h1 h2; rw [h1]

theorem half_bits (a : Nat) (h : a < 4294967296) : ∃ r t b : Nat, r < 16 ∧ PCrc.tab.getD r 0 = t ∧ bits BinOp.and IntKind.u32 (a : Int) 15 = (r : Int) ∧ bits BinOp.xor IntKind.u32 ((a : Int) / 16) (t : Int) = (b : Int) ∧ b = PCrc.sts 4 a ∧ b < 4294967296 := by
  refine ⟨a % 16, _, _, Nat.mod_lt _ (by decide), rfl, ?_, ?_, rfl, PCrc.sts_lt 4 h⟩
  · have := u32_and_nat a 15 h (by decide)
    rw [show ((15 : Nat) : Int) = 15 from rfl] at this
    rw [this]
    congr 1
    exact Nat.and_two_pow_sub_one_eq_mod a 4
  · have e : ((a : Int) / 16) = ((a / 16 : Nat) : Int) := by omega
    rw [e, u32_xor_nat _ _ (by omega) (PCrc.tab_lt _ (Nat.mod_lt _ (by decide))), PCrc.half]

set_option maxRecDepth 100000 in
theorem Sum_c (w : World) (B : Nat) (A : Option Addr) (c n : Nat) (l : List Int) (h : Rd w B A c 1 n (bs l)) (hb : isB l) (ht : Tab w) :
    Calls Tryd.prog 26 #[.slice A n c] w fun e w' => e = .returned (.int .u32 (PCrc.sum l : Nat)) ∧ w = w' := by
  have hlen := h.blen
  have HL := Lib.hid hlen; clear hlen
  have hm := h.le
  have hm2 := h.cap
  have hn : n ≤ 9223372036854775807 := by unfold maxLen at hm2; omega
  clear hm hm2
  go_enter Tryd.func26, Tryd.ntmps26
  go_wp2
  go_loop [3, 8] (fun s3 s8 => ∃ (i s : Nat), s3 = .int .u32 s ∧ s8 = .int .i64 i ∧ i ≤ n ∧ s < 4294967296 ∧ PCrc.run 4294967295 (l.take i) = s)
    (fun _ s8 => n - (intOf s8).toNat)
  case atStart => exact ⟨0, 4294967295, rfl, rfl, by omega, by omega, rfl⟩
  case round =>
    obtain ⟨i, s, rfl, rfl, hi, hs, hg⟩ := hrel
    have HG := Lib.hid hg; clear hg
    by_cases hlt : i < n
    · obtain ⟨b, o, x, rfl, hc, hd, hx0, hx1, hxl⟩ := h.byte hb hlt
      clear hxl
      have HD := Lib.hid hd; clear hd
      obtain ⟨y, rfl⟩ := Int.eq_ofNat_of_zero_le hx0
      have hy : y < 4294967296 := by omega
      have e1 := u32_xor_nat s y hs hy
      have ha : s ^^^ y < 4294967296 := Nat.xor_lt_two_pow (n := 32) hs hy
      generalize hsy : s ^^^ y = a at e1 ha
      have HSY := Lib.hid hsy; clear hsy
      obtain ⟨r, t, a2, hr, ht1, e2, e3, ha2, hl2⟩ := half_bits a ha
      have hc1 := ht r hr
      rw [ht1] at hc1
      have HA2 := Lib.hid ha2; clear ht1 ha2
      obtain ⟨r2, t2, a3, hr2, ht2, e4, e5, ha3, hl3⟩ := half_bits a2 hl2
      have hc2 := ht r2 hr2
      rw [ht2] at hc2
      have HA3 := Lib.hid ha3; clear ht2 ha3
      have HT := Lib.hid ht; clear ht
      go_wp2
      go_round
      case rel =>
        refine ⟨i + 1, a3, rfl, by go_num, by omega, hl3, ?_⟩
        rw [take_next HD.out, PCrc.run_append, HG.out, PCrc.run_cons, PCrc.run_nil, Int.toNat_natCast, HSY.out, HA3.out, HA2.out, ← PCrc.sts_add]
      case measure => simp [intOf]; omega
    · have e1 := u32_xor_nat 4294967295 s (by decide) hs
      have fin : Ending.returned (.int .u32 (bits BinOp.xor IntKind.u32 IntKind.u32.max (s : Int))) = Ending.returned (.int .u32 (PCrc.sum l : Nat)) := by
        rw [show IntKind.u32.max = 4294967295 from rfl, show (4294967295 : Int) = ((4294967295 : Nat) : Int) from rfl, e1]
        have e2 := HG.out
        rw [List.take_of_length_le (by have := HL.out; omega)] at e2
        rw [PCrc.sum, e2]
      have FIN := Lib.hid fin; clear fin e1
      have sg : IntKind.u32.signed = false := rfl
      go_wp2
      go_ret
      exact ⟨FIN.out, rfl⟩

set_option maxRecDepth 100000 in
theorem rSum_c (w : World) (B : Nat) (A : Option Addr) (c n : Nat) (l : List Int) (h : Rd w B A c 1 n (bs l)) (hb : isB l) :
    Calls Tryd.prog 25 #[.slice A n c] w fun e w' => e = .returned (.int .u32 (PCrc.sum l : Nat)) ∧ w = w' := by
  have hlen := h.blen
  have HL := Lib.hid hlen; clear hlen
  have hm := h.le
  have hm2 := h.cap
  have hn : n ≤ 9223372036854775807 := by unfold maxLen at hm2; omega
  clear hm hm2
  have sg : IntKind.u32.signed = false := rfl
  go_enter Tryd.func25, Tryd.ntmps25
  go_wp2
  go_loop [3, 4] (fun s3 s4 => ∃ (i s : Nat), s3 = .int .u32 s ∧ s4 = .int .i64 i ∧ i ≤ n ∧ s < 4294967296 ∧ PCrc.run 4294967295 (l.take i) = s)
    (fun _ s4 => n - (intOf s4).toNat)
  case atStart => exact ⟨0, 4294967295, rfl, rfl, by omega, by omega, rfl⟩
  case round =>
    obtain ⟨i, s, rfl, rfl, hi, hs, hg⟩ := hrel
    have HG := Lib.hid hg; clear hg
    by_cases hlt : i < n
    · obtain ⟨b, o, x, rfl, hc, hd, hx0, hx1, hxl⟩ := h.byte hb hlt
      clear hxl
      have HD := Lib.hid hd; clear hd
      obtain ⟨y, rfl⟩ := Int.eq_ofNat_of_zero_le hx0
      have hy : y < 4294967296 := by omega
      have e1 := u32_xor_nat s y hs hy
      have ha : s ^^^ y < 4294967296 := Nat.xor_lt_two_pow (n := 32) hs hy
      generalize hsy : s ^^^ y = a at e1 ha
      have HSY := Lib.hid hsy; clear hsy
      go_wp2
      go_loop [3, 5] (fun s3 s5 => ∃ (k u : Nat), s3 = .int .u32 u ∧ s5 = .int .i64 k ∧ k ≤ 8 ∧ u < 4294967296 ∧ PCrc.sts k a = u)
        (fun _ s5 => 8 - (intOf s5).toNat)
      case atStart => exact ⟨0, a, rfl, rfl, by omega, ha, rfl⟩
      case round =>
        obtain ⟨k, u, rfl, rfl, hk, hu, hku⟩ := hrel
        have HKU := Lib.hid hku; clear hku
        by_cases hk8 : k < 8
        · have hst := PCrc.st_lt hu
          by_cases h2 : u % 2 = 1
          · have e2 : ((u : Int) % 2) = 1 := by omega
            have e3 : bits BinOp.xor IntKind.u32 ((u : Int) / 2) 3988292384 = (PCrc.st u : Int) := by
              have := u32_xor_nat (u / 2) 3988292384 (by omega) (by decide)
              rw [show ((u / 2 : Nat) : Int) = (u : Int) / 2 from by omega] at this
              rw [show (3988292384 : Int) = ((3988292384 : Nat) : Int) from rfl, this, PCrc.st, if_pos h2]
            have H2 := Lib.hid h2; clear h2
            go_wp2
            go_round
            case rel => exact ⟨k + 1, PCrc.st u, rfl, by go_num, by omega, hst, by rw [PCrc.st_sts, HKU.out]⟩
            case measure => simp [intOf]; omega
          · have e2 : (((u : Int) % 2) == 1) = false := by simp; omega
            have e3 : ((u : Int) / 2) = (PCrc.st u : Int) := by rw [PCrc.st, if_neg h2]; omega
            have E3 := Lib.hid e3
            clear e3 h2
            go_wp2
            go_round
            case rel => exact ⟨k + 1, PCrc.st u, by rw [E3.out], by go_num, by omega, hst, by rw [PCrc.st_sts, HKU.out]⟩
            case measure => simp [intOf]; omega
        · obtain rfl : k = 8 := by omega
          go_wp2
          go_round
          case rel =>
            refine ⟨i + 1, u, rfl, by go_num, by omega, hu, ?_⟩
            rw [take_next HD.out, PCrc.run_append, HG.out, PCrc.run_cons, PCrc.run_nil, Int.toNat_natCast, HSY.out, HKU.out]
          case measure => simp [intOf]; omega
    · have e1 := u32_xor_nat 4294967295 s (by decide) hs
      have fin : Ending.returned (.int .u32 (bits BinOp.xor IntKind.u32 IntKind.u32.max (s : Int))) = Ending.returned (.int .u32 (PCrc.sum l : Nat)) := by
        rw [show IntKind.u32.max = 4294967295 from rfl, show (4294967295 : Int) = ((4294967295 : Nat) : Int) from rfl, e1]
        have e2 := HG.out
        rw [List.take_of_length_le (by have := HL.out; omega)] at e2
        rw [PCrc.sum, e2]
      have FIN := Lib.hid fin; clear fin e1
      go_wp2
      go_ret
      exact ⟨FIN.out, rfl⟩

end Go.Proofs.YtkdcafigcodbgaaDoor
