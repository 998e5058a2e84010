/- The walk of TableLast. Made by program (gen15c.py). -/
import Derived.Test.YtapleleaogjcjaaDoorTabX
import Derived.Test.YtapleleaogjcjaaDoorPlainTabL
import Derived.Test.YtapleleaogjcjaaDoorLaid
namespace Go.Proofs.YtapleleaogjcjaaDoor
open Go.RowKit PTab

theorem k_size : kk.size ≤ maxLen := by unfold maxLen; decide
theorem p_size : pp.size ≤ maxLen := by unfold maxLen; decide
theorem two_empty : ((⟨#[107, 61]⟩ : ByteArray) ++ ⟨#[]⟩) = ⟨#[107, 61]⟩ := data_inj (by simp)
set_option maxHeartbeats 8000000 in
set_option maxRecDepth 100000 in
theorem TableLast_w (w : World) (ht : Tab w) (A : Option Addr) (c n : Nat) (l : List Int) (h : Rd w w.heap.size A c 1 n (bs l)) (hb : isB l) (o : Int) (ho0 : 0 ≤ o) :
    Calls Tryd.prog 6 #[.slice A n c, .int .u8 o] w fun x w' => x = .returned (.bool true) ∧ Below w.heap.size w w' := by
  have HT := Lib.hid ht
  have R0 := Lib.hid h
  have HB := Lib.hid hb
  have hcap := h.cap
  have hle := h.le
  have hn : n ≤ 9223372036854775807 := by unfold maxLen at hcap; omega
  have ht20 : Int.tmod o 20 = o % 20 := Int.tmod_eq_emod_of_nonneg ho0
  have hy0 : 0 ≤ o % 20 := by omega
  have hy1 : o % 20 < 20 := by omega
  obtain ⟨oy, hoy⟩ : ∃ oy, o % 20 = oy := ⟨_, rfl⟩
  rw [hoy] at ht20 hy0 hy1
  obtain ⟨Y, hY⟩ : ∃ Y, strOfNums [97 + oy] = Y := ⟨_, rfl⟩
  have HY := Lib.hid hY
  have HYZ := Lib.hid (show Y.size = 1 by rw [← hY, strOfNums_size]; rfl)
  have HON := Lib.hid hn
  clear ht h hb hcap hle hY ho0 hoy hn
  go_enter Tryd.func6, Tryd.ntmps6
  go_wp2_with fail
  refine (begun_c w HT.out).mono ?_
  rintro x w1 ⟨rfl, b1⟩
  have B1 := Lib.hid b1
  clear b1
  go_wp2_with fail
  refine (New_c w1).mono ?_
  rintro x w2 ⟨rfl, q2, b2⟩
  have SA := Lib.hid (show Tx w w2 w1.heap.size [w1.heap.size] 0 [] from ⟨q2, fun k hk => by rw [List.mem_singleton.1 hk]; exact B1.out.size, B1.out.trans (b2.mono B1.out.size)⟩)
  clear q2 b2 B1
  generalize w1.heap.size = g at *
  have hn := HON.out
  go_wp2_with fail
  go_loopw [7, 8, 9] (fun s7 s8 s9 wr => ∃ (i : Nat) (v : ByteArray) (F : List Nat) (c' : Nat) (L : List Pr) (bv : Bool), i ≤ n ∧ i ≤ 30 ∧ s9 = .int .i64 i ∧ s7 = .string v ∧ s8 = .bool bv ∧ c' ≤ 2 * i ∧ Hid (Tx w wr g F c' L) ∧ Hid (L = Kv v ++ Mp i Y) ∧ Hid (v.size ≤ 1) ∧ Hid (bv = !decide (v.size = 0)))
    (fun _ _ s9 _ => n - (intOf s9).toNat)
  case atStart => exact ⟨0, ⟨#[]⟩, [g], 0, [], false, by omega, by omega, rfl, rfl, rfl, by omega, SA, Lib.hid rfl, Lib.hid (by decide), Lib.hid rfl⟩
  case round =>
    obtain ⟨i, v, F, c0, L, bv, hi, hi30, rfl, rfl, rfl, hc0, SX, HL, HV, HBV⟩ := hrel
    clear SA
    have hch : (i < n ∧ i < 30) ∨ (i < n ∧ 30 ≤ i) ∨ n ≤ i := by omega
    rcases hch with ⟨hlt, hlt30⟩ | ⟨hlt, hge⟩ | hge
    · obtain ⟨b, of, x, rfl, hcell, -, hx0, hx1, -⟩ := (R0.out.past SX.out.bel).byte HB.out hlt
      have HI := Lib.hid hi30
      by_cases hx : x % 3 = 0
      · as_aux_lemma =>
          have ht3 : Int.tmod x 3 = x % 3 := Int.tmod_eq_emod_of_nonneg hx0
          have hx3 : (x % 3 != 0) = false := by rw [hx]; rfl
          go_wp2_with fail
          clear hcell ht3 hx3
          have SV := Lib.hid (show ((⟨#[]⟩ : ByteArray) : ByteArray).size ≤ 14 by decide)
          have HD := Lib.hid (doo_k (u := v) (v := (⟨#[]⟩ : ByteArray)) (y := Y) (i := i) (s := (i : Int) + 1) (by omega) (by omega) SV.out)
          refine (show Calls Tryd.prog _ #[_, .agg #[.int .i64 1, .int .i64 1, .int .i64 ((i : Int) + 1), .int .i64 0, .int .i64 0, .int .i64 0, .string ⟨#[107, 61]⟩]] wr _ from SX.out.go (entS ((i : Int) + 1) ((⟨#[107, 61]⟩ : ByteArray) ++ (⟨#[]⟩ : ByteArray))) (show ((⟨#[107, 61]⟩ : ByteArray) ++ (⟨#[]⟩ : ByteArray)).size ≤ 1000000 by rw [ByteArray.size_append]; show 2 + ((⟨#[]⟩ : ByteArray) : ByteArray).size ≤ _; have := SV.out; omega) (by omega)).mono ?_
          rw [HD.out.1, HL.out, HD.out.2]
          rintro x w6 ⟨F6, rfl, s6, -, -⟩
          have S6 := Lib.hid s6
          have bel7 := (Below.refl w6.heap.size w6).alloc (Nat.le_refl _) (.cells #[.int .u8 112, .int .u8 61, .int .u8 (97 + oy)] 5)
          have S7 := Lib.hid (S6.out.past bel7)
          have N7 := Rd.new w6 #[.int .u8 112, .int .u8 61, .int .u8 (97 + oy)] 5 1 3 rfl (by unfold maxLen; omega)
          clear s6 bel7 HD SX
          go_wp2_with (with_reducible show wpList _ _ _ ((⟨some 59, Op.convert _ _ _, _, _, _, _⟩ : Oper) :: _) _ _; go_must (refine wpList_toStr rfl 45 9 (.tmp 58) rfl 5 Tryd.underlying45 Tryd.underlying5 Tryd.underlying9 _ _ _ 3 [112, 61, 97 + oy] rfl N7 ?_))
          clear N7
          generalize (w6.alloc (.cells #[.int .u8 112, .int .u8 61, .int .u8 (97 + oy)] 5)) = w7 at *
          have HE := Lib.hid (doo_p (v := (⟨#[]⟩ : ByteArray)) (n := 97 + oy) (i := i) (s := (i : Int) + 1) (by omega) (by omega))
          rw [HY.out] at HE
          refine (show Calls Tryd.prog _ #[_, .agg #[.int .i64 1, .int .i64 1, .int .i64 ((i : Int) + 1), .int .i64 0, .int .i64 0, .int .i64 0, .string (strOfNums [112, 61, 97 + oy])]] w7 _ from S7.out.go (entS ((i : Int) + 1) (strOfNums [112, 61, 97 + oy])) (show (strOfNums [112, 61, 97 + oy]).size ≤ 1000000 by rw [strOfNums_size]; show 3 ≤ 1000000; omega) (by omega)).mono ?_
          rw [HE.out.1, HE.out.2]
          rintro x w8 ⟨F8, rfl, s8, -, -⟩
          have S8 := Lib.hid s8
          have HG := Lib.hid (get_k (⟨#[]⟩ : ByteArray) Y (i + 1))
          clear s8 HE S6 S7
          go_wp2_with fail
          refine (Get_c w8 g F8 _ _ S8.out.tb kk k_size).mono ?_
          rw [HG.out]
          rintro x w9 ⟨rfl, b9⟩
          have S9 := Lib.hid (S8.out.past b9)
          clear b9 S8 HG
          simp only [show (⟨#[]⟩ : ByteArray).size = 0 from rfl, if_true, Option.getD_none, Option.isSome_none]
          go_wp2_with fail
          go_roundw
          case rel => exact ⟨i + 1, (⟨#[]⟩ : ByteArray), F8, _, _, _, by omega, by omega, by go_num, rfl, rfl, (show c0 + 1 + 1 ≤ 2 * (i + 1) by omega), S9, Lib.hid rfl, Lib.hid (by decide), Lib.hid rfl⟩
          case measure => simp [intOf]; omega
      · as_aux_lemma =>
          have ht3 : Int.tmod x 3 = x % 3 := Int.tmod_eq_emod_of_nonneg hx0
          have hx3 : (x % 3 != 0) = true := by simpa using hx
          have ht20x : Int.tmod x 20 = x % 20 := Int.tmod_eq_emod_of_nonneg hx0
          have hxx0 : 0 ≤ x % 20 := by omega
          have hxx1 : x % 20 < 20 := by omega
          obtain ⟨xx, hxx⟩ : ∃ xx, x % 20 = xx := ⟨_, rfl⟩
          rw [hxx] at ht20x hxx0 hxx1
          clear hxx hx
          have bel5 := (Below.refl wr.heap.size wr).alloc (Nat.le_refl _) (.cells #[.int .u8 (97 + xx)] 5)
          have S5 := Lib.hid (SX.out.past bel5)
          have N5 := Rd.new wr #[.int .u8 (97 + xx)] 5 1 1 rfl (by unfold maxLen; omega)
          clear bel5 SX
          go_wp2_with (with_reducible show wpList _ _ _ ((⟨some 43, Op.convert _ _ _, _, _, _, _⟩ : Oper) :: _) _ _; go_must (refine wpList_toStr rfl 45 9 (.tmp 42) rfl 5 Tryd.underlying45 Tryd.underlying5 Tryd.underlying9 _ _ _ 1 [97 + xx] rfl N5 ?_))
          clear N5
          generalize (wr.alloc (.cells #[.int .u8 (97 + xx)] 5)) = w5 at *
          clear hcell ht3 hx3 ht20x
          have SV := Lib.hid (show ((strOfNums [97 + xx]) : ByteArray).size ≤ 14 by rw [strOfNums_size]; show 1 ≤ 14; omega)
          have HD := Lib.hid (doo_k (u := v) (v := (strOfNums [97 + xx])) (y := Y) (i := i) (s := (i : Int) + 1) (by omega) (by omega) SV.out)
          refine (show Calls Tryd.prog _ #[_, .agg #[.int .i64 1, .int .i64 1, .int .i64 ((i : Int) + 1), .int .i64 0, .int .i64 0, .int .i64 0, .string ((⟨#[107, 61]⟩ : ByteArray) ++ (strOfNums [97 + xx]))]] w5 _ from S5.out.go (entS ((i : Int) + 1) ((⟨#[107, 61]⟩ : ByteArray) ++ (strOfNums [97 + xx]))) (show ((⟨#[107, 61]⟩ : ByteArray) ++ (strOfNums [97 + xx])).size ≤ 1000000 by rw [ByteArray.size_append]; show 2 + ((strOfNums [97 + xx]) : ByteArray).size ≤ _; have := SV.out; omega) (by omega)).mono ?_
          rw [HD.out.1, HL.out, HD.out.2]
          rintro x w6 ⟨F6, rfl, s6, -, -⟩
          have S6 := Lib.hid s6
          have bel7 := (Below.refl w6.heap.size w6).alloc (Nat.le_refl _) (.cells #[.int .u8 112, .int .u8 61, .int .u8 (97 + oy)] 5)
          have S7 := Lib.hid (S6.out.past bel7)
          have N7 := Rd.new w6 #[.int .u8 112, .int .u8 61, .int .u8 (97 + oy)] 5 1 3 rfl (by unfold maxLen; omega)
          clear s6 bel7 HD S5
          go_wp2_with (with_reducible show wpList _ _ _ ((⟨some 59, Op.convert _ _ _, _, _, _, _⟩ : Oper) :: _) _ _; go_must (refine wpList_toStr rfl 45 9 (.tmp 58) rfl 5 Tryd.underlying45 Tryd.underlying5 Tryd.underlying9 _ _ _ 3 [112, 61, 97 + oy] rfl N7 ?_))
          clear N7
          generalize (w6.alloc (.cells #[.int .u8 112, .int .u8 61, .int .u8 (97 + oy)] 5)) = w7 at *
          have HE := Lib.hid (doo_p (v := (strOfNums [97 + xx])) (n := 97 + oy) (i := i) (s := (i : Int) + 1) (by omega) (by omega))
          rw [HY.out] at HE
          refine (show Calls Tryd.prog _ #[_, .agg #[.int .i64 1, .int .i64 1, .int .i64 ((i : Int) + 1), .int .i64 0, .int .i64 0, .int .i64 0, .string (strOfNums [112, 61, 97 + oy])]] w7 _ from S7.out.go (entS ((i : Int) + 1) (strOfNums [112, 61, 97 + oy])) (show (strOfNums [112, 61, 97 + oy]).size ≤ 1000000 by rw [strOfNums_size]; show 3 ≤ 1000000; omega) (by omega)).mono ?_
          rw [HE.out.1, HE.out.2]
          rintro x w8 ⟨F8, rfl, s8, -, -⟩
          have S8 := Lib.hid s8
          have HG := Lib.hid (get_k (strOfNums [97 + xx]) Y (i + 1))
          clear s8 HE S6 S7
          go_wp2_with fail
          refine (Get_c w8 g F8 _ _ S8.out.tb kk k_size).mono ?_
          rw [HG.out]
          rintro x w9 ⟨rfl, b9⟩
          have S9 := Lib.hid (S8.out.past b9)
          clear b9 S8 HG
          simp only [show (strOfNums [97 + xx]).size = 1 from strOfNums_size _, Nat.one_ne_zero, if_false, Option.getD_some, Option.isSome_some]
          have hne : ((strOfNums [97 + xx]).toList == []) = false := by rw [toList_nil_iff, strOfNums_size]; rfl
          have hne2 : (strOfNums [97 + xx]).toList.isEmpty = false := by rw [Lib.toList_data]; rfl
          go_wp2_with fail
          go_roundw
          case rel => exact ⟨i + 1, (strOfNums [97 + xx]), F8, _, _, _, by omega, by omega, by go_num, rfl, rfl, (show c0 + 1 + 1 ≤ 2 * (i + 1) by omega), S9, Lib.hid rfl, Lib.hid (by rw [strOfNums_size]; exact Nat.le_refl _), Lib.hid (by rw [hne2, strOfNums_size]; rfl)⟩
          case measure => simp [intOf]; omega
    · as_aux_lemma =>
          go_wp2_with fail
          have HLL := Lib.hid (show L.length = (if v.size = 0 then 0 else 1) + (if i = 0 then 0 else 1) by rw [HL.out]; exact len_kp v Y i)
          have HGP := Lib.hid (show get L pp = if i = 0 then none else some Y by rw [HL.out]; exact get_p v Y i)
          refine (Get_c wr g F c0 L SX.out.tb pp p_size).mono ?_
          rw [HGP.out]
          rintro x w9 ⟨rfl, b9⟩
          have S9 := Lib.hid (SX.out.past b9)
          clear b9 SX HGP HL HV
          rcases Nat.eq_zero_or_pos i with hz | hp
          · omega
          · by_cases hv : v.size = 0
            · as_aux_lemma =>
                obtain rfl : bv = false := by rw [HBV.out, decide_eq_true hv]; rfl
                have hLL := Lib.hid (show L.length = 1 by rw [HLL.out]; simp [hv, Nat.pos_iff_ne_zero.1 hp])
                simp only [Nat.pos_iff_ne_zero.1 hp, if_false, Option.getD_some, Option.isSome_some]
                have hn0 : (0 : Int) < (n : Int) := by omega
                clear hv HLL HBV
                have bel10 := (Below.refl w9.heap.size w9).alloc (Nat.le_refl _) (.cells #[.int .u8 (97 + oy)] 5)
                have S10 := Lib.hid (S9.out.past bel10)
                have N10 := Rd.new w9 #[.int .u8 (97 + oy)] 5 1 1 rfl (by unfold maxLen; omega)
                have hyy : (Y.toList == (strOfNums [97 + oy]).toList) = true := by rw [HY.out]; exact eqb_self Y
                clear bel10 S9
                go_wp2_with ((with_reducible show wpList _ _ _ ((⟨some 105, Op.convert _ _ _, _, _, _, _⟩ : Oper) :: _) _ _); go_must (refine wpList_unguard (by rfl) ?_; refine wpList_toStr rfl 45 9 (.tmp 104) rfl 5 Tryd.underlying45 Tryd.underlying5 Tryd.underlying9 _ _ _ 1 [97 + oy] rfl N10 ?_))
                clear N10
                refine (Names_c (w9.alloc (.cells #[.int .u8 (97 + oy)] 5)) g F c0 L S10.out.tb (by omega)).mono ?_
                rw [hLL.out]
                rintro x w11 ⟨A11, c11, rfl, -, -, b11⟩
                have S11 := Lib.hid (S10.out.past b11)
                clear b11
                go_wp2_with fail
                go_ret
                exact ⟨rfl, S11.out.bel⟩
            · as_aux_lemma =>
                obtain rfl : bv = true := by rw [HBV.out, decide_eq_false hv]; rfl
                have hLL := Lib.hid (show L.length = 2 by rw [HLL.out]; simp [hv, Nat.pos_iff_ne_zero.1 hp])
                simp only [Nat.pos_iff_ne_zero.1 hp, if_false, Option.getD_some, Option.isSome_some]
                have hn0 : (0 : Int) < (n : Int) := by omega
                clear hv HLL HBV
                have bel10 := (Below.refl w9.heap.size w9).alloc (Nat.le_refl _) (.cells #[.int .u8 (97 + oy)] 5)
                have S10 := Lib.hid (S9.out.past bel10)
                have N10 := Rd.new w9 #[.int .u8 (97 + oy)] 5 1 1 rfl (by unfold maxLen; omega)
                have hyy : (Y.toList == (strOfNums [97 + oy]).toList) = true := by rw [HY.out]; exact eqb_self Y
                clear bel10 S9
                go_wp2_with ((with_reducible show wpList _ _ _ ((⟨some 105, Op.convert _ _ _, _, _, _, _⟩ : Oper) :: _) _ _); go_must (refine wpList_unguard (by rfl) ?_; refine wpList_toStr rfl 45 9 (.tmp 104) rfl 5 Tryd.underlying45 Tryd.underlying5 Tryd.underlying9 _ _ _ 1 [97 + oy] rfl N10 ?_))
                clear N10
                refine (Names_c (w9.alloc (.cells #[.int .u8 (97 + oy)] 5)) g F c0 L S10.out.tb (by omega)).mono ?_
                rw [hLL.out]
                rintro x w11 ⟨A11, c11, rfl, -, -, b11⟩
                have S11 := Lib.hid (S10.out.past b11)
                clear b11
                go_wp2_with fail
                go_ret
                exact ⟨rfl, S11.out.bel⟩
    · as_aux_lemma =>
          go_wp2_with fail
          have HLL := Lib.hid (show L.length = (if v.size = 0 then 0 else 1) + (if i = 0 then 0 else 1) by rw [HL.out]; exact len_kp v Y i)
          have HGP := Lib.hid (show get L pp = if i = 0 then none else some Y by rw [HL.out]; exact get_p v Y i)
          refine (Get_c wr g F c0 L SX.out.tb pp p_size).mono ?_
          rw [HGP.out]
          rintro x w9 ⟨rfl, b9⟩
          have S9 := Lib.hid (SX.out.past b9)
          clear b9 SX HGP HL HV
          rcases Nat.eq_zero_or_pos i with hz | hp
          · obtain rfl : n = 0 := by omega
            subst hz
            by_cases hv : v.size = 0
            · as_aux_lemma =>
                obtain rfl : bv = false := by rw [HBV.out, decide_eq_true hv]; rfl
                have hLL := Lib.hid (show L.length = 0 by rw [HLL.out]; simp [hv])
                simp only [if_true, Option.getD_none, Option.isSome_none]
                clear hv HLL HBV
                go_wp2_with fail
                refine (Names_c w9 g F c0 L S9.out.tb (by omega)).mono ?_
                rw [hLL.out]
                rintro x w11 ⟨A11, c11, rfl, -, -, b11⟩
                have S11 := Lib.hid (S9.out.past b11)
                clear b11
                go_wp2_with fail
                go_ret
                exact ⟨rfl, S11.out.bel⟩
            · as_aux_lemma =>
                obtain rfl : bv = true := by rw [HBV.out, decide_eq_false hv]; rfl
                have hLL := Lib.hid (show L.length = 1 by rw [HLL.out]; simp [hv])
                simp only [if_true, Option.getD_none, Option.isSome_none]
                clear hv HLL HBV
                go_wp2_with fail
                refine (Names_c w9 g F c0 L S9.out.tb (by omega)).mono ?_
                rw [hLL.out]
                rintro x w11 ⟨A11, c11, rfl, -, -, b11⟩
                have S11 := Lib.hid (S9.out.past b11)
                clear b11
                go_wp2_with fail
                go_ret
                exact ⟨rfl, S11.out.bel⟩
          · by_cases hv : v.size = 0
            · as_aux_lemma =>
                obtain rfl : bv = false := by rw [HBV.out, decide_eq_true hv]; rfl
                have hLL := Lib.hid (show L.length = 1 by rw [HLL.out]; simp [hv, Nat.pos_iff_ne_zero.1 hp])
                simp only [Nat.pos_iff_ne_zero.1 hp, if_false, Option.getD_some, Option.isSome_some]
                have hn0 : (0 : Int) < (n : Int) := by omega
                clear hv HLL HBV
                have bel10 := (Below.refl w9.heap.size w9).alloc (Nat.le_refl _) (.cells #[.int .u8 (97 + oy)] 5)
                have S10 := Lib.hid (S9.out.past bel10)
                have N10 := Rd.new w9 #[.int .u8 (97 + oy)] 5 1 1 rfl (by unfold maxLen; omega)
                have hyy : (Y.toList == (strOfNums [97 + oy]).toList) = true := by rw [HY.out]; exact eqb_self Y
                clear bel10 S9
                go_wp2_with ((with_reducible show wpList _ _ _ ((⟨some 105, Op.convert _ _ _, _, _, _, _⟩ : Oper) :: _) _ _); go_must (refine wpList_unguard (by rfl) ?_; refine wpList_toStr rfl 45 9 (.tmp 104) rfl 5 Tryd.underlying45 Tryd.underlying5 Tryd.underlying9 _ _ _ 1 [97 + oy] rfl N10 ?_))
                clear N10
                refine (Names_c (w9.alloc (.cells #[.int .u8 (97 + oy)] 5)) g F c0 L S10.out.tb (by omega)).mono ?_
                rw [hLL.out]
                rintro x w11 ⟨A11, c11, rfl, -, -, b11⟩
                have S11 := Lib.hid (S10.out.past b11)
                clear b11
                go_wp2_with fail
                go_ret
                exact ⟨rfl, S11.out.bel⟩
            · as_aux_lemma =>
                obtain rfl : bv = true := by rw [HBV.out, decide_eq_false hv]; rfl
                have hLL := Lib.hid (show L.length = 2 by rw [HLL.out]; simp [hv, Nat.pos_iff_ne_zero.1 hp])
                simp only [Nat.pos_iff_ne_zero.1 hp, if_false, Option.getD_some, Option.isSome_some]
                have hn0 : (0 : Int) < (n : Int) := by omega
                clear hv HLL HBV
                have bel10 := (Below.refl w9.heap.size w9).alloc (Nat.le_refl _) (.cells #[.int .u8 (97 + oy)] 5)
                have S10 := Lib.hid (S9.out.past bel10)
                have N10 := Rd.new w9 #[.int .u8 (97 + oy)] 5 1 1 rfl (by unfold maxLen; omega)
                have hyy : (Y.toList == (strOfNums [97 + oy]).toList) = true := by rw [HY.out]; exact eqb_self Y
                clear bel10 S9
                go_wp2_with ((with_reducible show wpList _ _ _ ((⟨some 105, Op.convert _ _ _, _, _, _, _⟩ : Oper) :: _) _ _); go_must (refine wpList_unguard (by rfl) ?_; refine wpList_toStr rfl 45 9 (.tmp 104) rfl 5 Tryd.underlying45 Tryd.underlying5 Tryd.underlying9 _ _ _ 1 [97 + oy] rfl N10 ?_))
                clear N10
                refine (Names_c (w9.alloc (.cells #[.int .u8 (97 + oy)] 5)) g F c0 L S10.out.tb (by omega)).mono ?_
                rw [hLL.out]
                rintro x w11 ⟨A11, c11, rfl, -, -, b11⟩
                have S11 := Lib.hid (S10.out.past b11)
                clear b11
                go_wp2_with fail
                go_ret
                exact ⟨rfl, S11.out.bel⟩
end Go.Proofs.YtapleleaogjcjaaDoor
