/- Contract of the statements' begun. -/
import Derived.Test.YtoflbgmmnljloaaEntG
import Derived.Test.YtoflbgmmnljloaaEntC
namespace Go.Proofs.Ytoflbgmmnljloaa
open Go.RowKit

def eOne : Ent := ⟨1, 1, 1, 1, 1, 0, ⟨#[97, 61, 98]⟩⟩
def eTwo : Ent := ⟨1, 1, 1, 1, 1, 9, ⟨#[97, 61, 98]⟩⟩
theorem two_enc : PEnt.encode [eOne, eTwo] = PEnt.enc [eOne, eTwo] := encode_good (by decide)
theorem two_dec : PEnt.dec (PEnt.enc [eOne, eTwo]) = some [eOne, eTwo] := PEnt.dec_enc (by decide)

set_option maxHeartbeats 4000000 in
set_option maxRecDepth 100000 in
theorem begun_c (w : World) :
    Calls Try.prog 9 #[] w fun x w' => x = .returned (.bool true) ∧ Below w.heap.size w w' := by
  have H1 := Lib.hid (show PEnt.may eOne = true by decide)
  have H2 := Lib.hid (show PEnt.may zeroE = false by decide)
  have H3 := Lib.hid (show PEnt.same eOne eTwo = true by decide)
  have H4 := Lib.hid (show PEnt.eqE eOne eTwo = false by
    unfold PEnt.eqE eOne eTwo; simp)
  have hp := PEnt.encE_pos eOne
  have hl := PEnt.enc_len [eOne, eTwo] (by decide)
  have HP := Lib.hid (show 0 < (PEnt.enc [eOne, eTwo]).length by simp only [PEnt.enc, List.length_append]; omega)
  have HL := Lib.hid (show (PEnt.enc [eOne, eTwo]).length ≤ 172 by simpa using hl)
  clear hp hl
  go_enter Try.func9, Try.ntmps9
  go_wp2_with fail
  have s1 : (w.alloc (.cells #[.int .i64 1, .int .i64 1, .int .i64 1, .int .i64 1, .int .i64 1, .int .i64 0, .string ⟨#[97, 61, 98]⟩] 23)).heap.size = w.heap.size + 1 := by simp
  have s2 : ((w.alloc (.cells #[.int .i64 1, .int .i64 1, .int .i64 1, .int .i64 1, .int .i64 1, .int .i64 0, .string ⟨#[97, 61, 98]⟩] 23)).alloc (.cells #[.int .i64 1, .int .i64 1, .int .i64 1, .int .i64 1, .int .i64 1, .int .i64 9, .string ⟨#[97, 61, 98]⟩] 23)).heap.size = w.heap.size + 1 + 1 := by simp
  have b0 := Lib.hid ((((Below.refl w.heap.size w).alloc (Nat.le_refl _) (.cells #[.int .i64 1, .int .i64 1, .int .i64 1, .int .i64 1, .int .i64 1, .int .i64 0, .string ⟨#[97, 61, 98]⟩] 23)).alloc (by rw [s1]; omega) (.cells #[.int .i64 1, .int .i64 1, .int .i64 1, .int .i64 1, .int .i64 1, .int .i64 9, .string ⟨#[97, 61, 98]⟩] 23)).alloc (by rw [s2]; omega) (.cells #[.int .i64 1, .int .i64 1, .int .i64 1, .int .i64 1, .int .i64 1, .int .i64 0, .string ⟨#[97, 61, 98]⟩, .int .i64 1, .int .i64 1, .int .i64 1, .int .i64 1, .int .i64 1, .int .i64 9, .string ⟨#[97, 61, 98]⟩] 23))
  have k1 := Lib.hid (((Blk.newEnt w 23 eOne).alloc (.cells #[.int .i64 1, .int .i64 1, .int .i64 1, .int .i64 1, .int .i64 1, .int .i64 9, .string ⟨#[97, 61, 98]⟩] 23)).alloc (.cells #[.int .i64 1, .int .i64 1, .int .i64 1, .int .i64 1, .int .i64 1, .int .i64 0, .string ⟨#[97, 61, 98]⟩, .int .i64 1, .int .i64 1, .int .i64 1, .int .i64 1, .int .i64 1, .int .i64 9, .string ⟨#[97, 61, 98]⟩] 23))
  have k2 := Blk.newEnt (w.alloc (.cells #[.int .i64 1, .int .i64 1, .int .i64 1, .int .i64 1, .int .i64 1, .int .i64 0, .string ⟨#[97, 61, 98]⟩] 23)) 23 eTwo
  rw [s1] at k2
  have k2' := Lib.hid (k2.alloc (.cells #[.int .i64 1, .int .i64 1, .int .i64 1, .int .i64 1, .int .i64 1, .int .i64 0, .string ⟨#[97, 61, 98]⟩, .int .i64 1, .int .i64 1, .int .i64 1, .int .i64 1, .int .i64 1, .int .i64 9, .string ⟨#[97, 61, 98]⟩] 23))
  have r0 := Rd.new ((w.alloc (.cells #[.int .i64 1, .int .i64 1, .int .i64 1, .int .i64 1, .int .i64 1, .int .i64 0, .string ⟨#[97, 61, 98]⟩] 23)).alloc (.cells #[.int .i64 1, .int .i64 1, .int .i64 1, .int .i64 1, .int .i64 1, .int .i64 9, .string ⟨#[97, 61, 98]⟩] 23)) #[.int .i64 1, .int .i64 1, .int .i64 1, .int .i64 1, .int .i64 1, .int .i64 0, .string ⟨#[97, 61, 98]⟩, .int .i64 1, .int .i64 1, .int .i64 1, .int .i64 1, .int .i64 1, .int .i64 9, .string ⟨#[97, 61, 98]⟩] 23 7 2 rfl (by unfold maxLen; omega)
  rw [s2] at r0
  have R0 := Lib.hid (show Rd (((w.alloc (.cells #[.int .i64 1, .int .i64 1, .int .i64 1, .int .i64 1, .int .i64 1, .int .i64 0, .string ⟨#[97, 61, 98]⟩] 23)).alloc (.cells #[.int .i64 1, .int .i64 1, .int .i64 1, .int .i64 1, .int .i64 1, .int .i64 9, .string ⟨#[97, 61, 98]⟩] 23)).alloc (.cells #[.int .i64 1, .int .i64 1, .int .i64 1, .int .i64 1, .int .i64 1, .int .i64 0, .string ⟨#[97, 61, 98]⟩, .int .i64 1, .int .i64 1, .int .i64 1, .int .i64 1, .int .i64 1, .int .i64 9, .string ⟨#[97, 61, 98]⟩] 23)) (w.heap.size + 1 + 1 + 1) (some ⟨w.heap.size + 1 + 1, 0, none⟩) 2 7 2 (els [eOne, eTwo]) from r0)
  clear r0 k2 s1 s2
  have K1 : Hid (Blk (((w.alloc (.cells #[.int .i64 1, .int .i64 1, .int .i64 1, .int .i64 1, .int .i64 1, .int .i64 0, .string ⟨#[97, 61, 98]⟩] 23)).alloc (.cells #[.int .i64 1, .int .i64 1, .int .i64 1, .int .i64 1, .int .i64 1, .int .i64 9, .string ⟨#[97, 61, 98]⟩] 23)).alloc (.cells #[.int .i64 1, .int .i64 1, .int .i64 1, .int .i64 1, .int .i64 1, .int .i64 0, .string ⟨#[97, 61, 98]⟩, .int .i64 1, .int .i64 1, .int .i64 1, .int .i64 1, .int .i64 1, .int .i64 9, .string ⟨#[97, 61, 98]⟩] 23)) w.heap.size 23 (ecs eOne)) := k1
  have K2 : Hid (Blk (((w.alloc (.cells #[.int .i64 1, .int .i64 1, .int .i64 1, .int .i64 1, .int .i64 1, .int .i64 0, .string ⟨#[97, 61, 98]⟩] 23)).alloc (.cells #[.int .i64 1, .int .i64 1, .int .i64 1, .int .i64 1, .int .i64 1, .int .i64 9, .string ⟨#[97, 61, 98]⟩] 23)).alloc (.cells #[.int .i64 1, .int .i64 1, .int .i64 1, .int .i64 1, .int .i64 1, .int .i64 0, .string ⟨#[97, 61, 98]⟩, .int .i64 1, .int .i64 1, .int .i64 1, .int .i64 1, .int .i64 1, .int .i64 9, .string ⟨#[97, 61, 98]⟩] 23)) (w.heap.size + 1) 23 (ecs eTwo)) := k2'
  have B0 : Hid (Below w.heap.size w (((w.alloc (.cells #[.int .i64 1, .int .i64 1, .int .i64 1, .int .i64 1, .int .i64 1, .int .i64 0, .string ⟨#[97, 61, 98]⟩] 23)).alloc (.cells #[.int .i64 1, .int .i64 1, .int .i64 1, .int .i64 1, .int .i64 1, .int .i64 9, .string ⟨#[97, 61, 98]⟩] 23)).alloc (.cells #[.int .i64 1, .int .i64 1, .int .i64 1, .int .i64 1, .int .i64 1, .int .i64 0, .string ⟨#[97, 61, 98]⟩, .int .i64 1, .int .i64 1, .int .i64 1, .int .i64 1, .int .i64 1, .int .i64 9, .string ⟨#[97, 61, 98]⟩] 23))) := b0
  clear k1 k2' b0
  generalize (((w.alloc (.cells #[.int .i64 1, .int .i64 1, .int .i64 1, .int .i64 1, .int .i64 1, .int .i64 0, .string ⟨#[97, 61, 98]⟩] 23)).alloc (.cells #[.int .i64 1, .int .i64 1, .int .i64 1, .int .i64 1, .int .i64 1, .int .i64 9, .string ⟨#[97, 61, 98]⟩] 23)).alloc (.cells #[.int .i64 1, .int .i64 1, .int .i64 1, .int .i64 1, .int .i64 1, .int .i64 0, .string ⟨#[97, 61, 98]⟩, .int .i64 1, .int .i64 1, .int .i64 1, .int .i64 1, .int .i64 1, .int .i64 9, .string ⟨#[97, 61, 98]⟩] 23)) = w3 at *
  refine (Encode_c w3 _ _ 2 2 [eOne, eTwo] R0.out (by omega)).mono ?_
  rw [two_enc]
  have HD := Lib.hid two_dec
  have HB := Lib.hid (PEnt.enc_byte [eOne, eTwo])
  generalize PEnt.enc [eOne, eTwo] = E at *
  rintro x w4 ⟨A4, c4, rfl, hown4, b4⟩
  have R4 := Lib.hid (Rd.of_own hown4)
  have B4 := Lib.hid (B0.out.trans (b4.mono B0.out.size))
  have K14 := Lib.hid (K1.out.past b4)
  have K24 := Lib.hid (K2.out.past b4)
  clear hown4 b4 B0 K1 K2 R0
  go_wp2_with fail
  refine (Decode_c w4 _ A4 c4 E.length E R4.out HB.out (by have := HL.out; omega)).mono ?_
  rw [HD.out]
  rintro x w5 ⟨A5, c5, rfl, hown5, b5⟩
  simp only [dErr, Option.getD_some, List.length_cons, List.length_nil, Nat.zero_add, Nat.reduceAdd] at hown5 ⊢
  have R5 := Lib.hid (Rd.of_own hown5)
  have B5 := Lib.hid (B4.out.trans (b5.mono B4.out.size))
  have K15 := Lib.hid (K14.out.past b5)
  have K25 := Lib.hid (K24.out.past b5)
  clear hown5 b5 B4 K14 K24 R4
  obtain ⟨d0, d1, d2, d3, d4, d5, d6⟩ := K15.out.ent
  simp only [eOne] at d0 d1 d2 d3 d4 d5 d6
  go_wp2_with fail
  clear d0 d1 d2 d3 d4 d5 d6
  refine (May_c w5 eOne).mono ?_
  rw [H1.out]
  rintro x w6 ⟨rfl, b6⟩
  have B6 := Lib.hid (B5.out.trans (b6.mono B5.out.size))
  have K16 := Lib.hid (K15.out.past b6)
  have K26 := Lib.hid (K25.out.past b6)
  have R6 := Lib.hid (R5.out.past b6)
  clear b6 B5 K15 K25 R5
  go_wp2_with fail
  refine (May_c w6 zeroE).mono ?_
  rw [H2.out]
  rintro x w7 ⟨rfl, b7⟩
  have B7 := Lib.hid (B6.out.trans (b7.mono B6.out.size))
  have K17 := Lib.hid (K16.out.past b7)
  have K27 := Lib.hid (K26.out.past b7)
  have R7 := Lib.hid (R6.out.past b7)
  clear b7 B6 K16 K26 R6
  obtain ⟨d0, d1, d2, d3, d4, d5, d6⟩ := K17.out.ent
  obtain ⟨f0, f1, f2, f3, f4, f5, f6⟩ := K27.out.ent
  simp only [eOne] at d0 d1 d2 d3 d4 d5 d6
  simp only [eTwo] at f0 f1 f2 f3 f4 f5 f6
  go_wp2_with fail
  clear d0 d1 d2 d3 d4 d5 d6 f0 f1 f2 f3 f4 f5 f6
  refine (Same_c w7 eOne eTwo).mono ?_
  rw [H3.out]
  rintro x w8 ⟨rfl, b8⟩
  have B8 := Lib.hid (B7.out.trans (b8.mono B7.out.size))
  have K18 := Lib.hid (K17.out.past b8)
  have K28 := Lib.hid (K27.out.past b8)
  have R8 := Lib.hid (R7.out.past b8)
  clear b8 B7 K17 K27 R7
  obtain ⟨d0, d1, d2, d3, d4, d5, d6⟩ := K18.out.ent
  obtain ⟨f0, f1, f2, f3, f4, f5, f6⟩ := K28.out.ent
  simp only [eOne] at d0 d1 d2 d3 d4 d5 d6
  simp only [eTwo] at f0 f1 f2 f3 f4 f5 f6
  go_wp2_with fail
  clear d0 d1 d2 d3 d4 d5 d6 f0 f1 f2 f3 f4 f5 f6
  refine (Eq_c w8 eOne eTwo).mono ?_
  rw [H4.out]
  rintro x w9 ⟨rfl, b9⟩
  have B9 := Lib.hid (B8.out.trans (b9.mono B8.out.size))
  obtain ⟨b, o, e, rfl, -, he, -, d0, d1, d2, d3, d4, d5, d6⟩ := (R8.out.past b9).ent (i := 1) (by omega)
  obtain rfl : eTwo = e := by simpa using he
  have hpos := HP.out
  simp only [eTwo] at d5
  clear b9 B8 K18 K28 R8 he d0 d1 d2 d3 d4 d6
  go_wp2_with fail
  go_ret
  exact ⟨rfl, B9.out⟩
end Go.Proofs.Ytoflbgmmnljloaa
