/- The walk of StableTwins. -/
import Derived.Test.YtkdcafigcodbgaaDoorStabK
import Derived.Test.YtkdcafigcodbgaaDoorHeldT
import Derived.WalkSmall
namespace Go.Proofs.YtkdcafigcodbgaaDoor
open Go.RowKit PStab

theorem put_0 {v : Int} (h : Ok v) : put 0 v = v := by
  by_cases k : 0 < v
  · exact put_yes ⟨k, h.2⟩
  · rw [put_no (by omega)]; have := h.1; omega
theorem enc_q (a v b u : Int) (h1 : Ok a) (h2 : Ok v) (h3 : Ok b) (h4 : Ok u) : ((strOfNums (enc a v)).toList == (strOfNums (enc b u)).toList) = decide (a = b ∧ v = u) := by
  rw [strOfNums_beq (enc_byte a v) (enc_byte b u)]
  simp only [enc_inj h1 h2 h3 h4]

set_option maxHeartbeats 2000000 in
set_option maxRecDepth 100000 in
theorem StableTwins_w (w : World) (ht : Tab w) (a b v u : Int) : Calls Tryd.prog 8 #[.int .i64 a, .int .i64 b, .int .i64 v, .int .i64 u] w fun e w' => e = .returned (.bool true) ∧ Below w.heap.size w w' := by
  have HT := Lib.hid ht
  clear ht
  rcases (by omega : a < 0 ∨ 0 ≤ a ∧ 30 < a ∨ 0 ≤ a ∧ a ≤ 30 ∧ b < 0 ∨ 0 ≤ a ∧ a ≤ 30 ∧ 0 ≤ b ∧ 30 < b ∨ 0 ≤ a ∧ a ≤ 30 ∧ 0 ≤ b ∧ b ≤ 30 ∧ v < 0 ∨ 0 ≤ a ∧ a ≤ 30 ∧ 0 ≤ b ∧ b ≤ 30 ∧ 0 ≤ v ∧ 1099511627776 < v ∨ 0 ≤ a ∧ a ≤ 30 ∧ 0 ≤ b ∧ b ≤ 30 ∧ 0 ≤ v ∧ v ≤ 1099511627776 ∧ u < 0 ∨ 0 ≤ a ∧ a ≤ 30 ∧ 0 ≤ b ∧ b ≤ 30 ∧ 0 ≤ v ∧ v ≤ 1099511627776 ∧ 0 ≤ u ∧ 1099511627776 < u ∨ 0 ≤ a ∧ a ≤ 30 ∧ 0 ≤ b ∧ b ≤ 30 ∧ 0 ≤ v ∧ v ≤ 1099511627776 ∧ 0 ≤ u ∧ u ≤ 1099511627776) with k0 | ⟨k0, k1⟩ | ⟨k0, k1, k2⟩ | ⟨k0, k1, k2, k3⟩ | ⟨k0, k1, k2, k3, k4⟩ | ⟨k0, k1, k2, k3, k4, k5⟩ | ⟨k0, k1, k2, k3, k4, k5, k6⟩ | ⟨k0, k1, k2, k3, k4, k5, k6, k7⟩ | ⟨k0, k1, k2, k3, k4, k5, k6, k7⟩
  · go_enter Tryd.func8, Tryd.ntmps8
    go_wp2_with fail
    refine (begunS_c w HT.out).mono ?_
    rintro e w1 ⟨rfl, b1⟩
    go_wp2_with fail
    go_ret
    exact ⟨rfl, b1⟩
  · go_enter Tryd.func8, Tryd.ntmps8
    go_wp2_with fail
    refine (begunS_c w HT.out).mono ?_
    rintro e w1 ⟨rfl, b1⟩
    go_wp2_with fail
    go_ret
    exact ⟨rfl, b1⟩
  · go_enter Tryd.func8, Tryd.ntmps8
    go_wp2_with fail
    refine (begunS_c w HT.out).mono ?_
    rintro e w1 ⟨rfl, b1⟩
    go_wp2_with fail
    go_ret
    exact ⟨rfl, b1⟩
  · go_enter Tryd.func8, Tryd.ntmps8
    go_wp2_with fail
    refine (begunS_c w HT.out).mono ?_
    rintro e w1 ⟨rfl, b1⟩
    go_wp2_with fail
    go_ret
    exact ⟨rfl, b1⟩
  · go_enter Tryd.func8, Tryd.ntmps8
    go_wp2_with fail
    refine (begunS_c w HT.out).mono ?_
    rintro e w1 ⟨rfl, b1⟩
    go_wp2_with fail
    go_ret
    exact ⟨rfl, b1⟩
  · go_enter Tryd.func8, Tryd.ntmps8
    go_wp2_with fail
    refine (begunS_c w HT.out).mono ?_
    rintro e w1 ⟨rfl, b1⟩
    go_wp2_with fail
    go_ret
    exact ⟨rfl, b1⟩
  · go_enter Tryd.func8, Tryd.ntmps8
    go_wp2_with fail
    refine (begunS_c w HT.out).mono ?_
    rintro e w1 ⟨rfl, b1⟩
    go_wp2_with fail
    go_ret
    exact ⟨rfl, b1⟩
  · go_enter Tryd.func8, Tryd.ntmps8
    go_wp2_with fail
    refine (begunS_c w HT.out).mono ?_
    rintro e w1 ⟨rfl, b1⟩
    go_wp2_with fail
    go_ret
    exact ⟨rfl, b1⟩
  · have OA := Lib.hid (show Ok a from ⟨k0, by omega⟩)
    have OB := Lib.hid (show Ok b from ⟨k2, by omega⟩)
    have OV := Lib.hid (show Ok v from ⟨k4, k5⟩)
    have OU := Lib.hid (show Ok u from ⟨k6, k7⟩)
    go_enter Tryd.func8, Tryd.ntmps8
    go_wp2_with fail
    refine (begunS_c w HT.out).mono ?_
    rintro e w1 ⟨rfl, b1⟩
    have S1 := Lib.hid b1
    clear b1
    have a2 := (Below.refl w1.heap.size w1).alloc (Nat.le_refl _) (.cells #[.int .i64 0, .int .i64 0] 27)
    have d2 : Hid (Sd w (w1.alloc (.cells #[.int .i64 0, .int .i64 0] 27)) w1.heap.size 0 0) := Lib.hid ⟨S1.out.trans (a2.mono S1.out.size), S1.out.size, Blk.new w1 #[.int .i64 0, .int .i64 0] _, ok_0, ok_0⟩
    have hsz : (w1.alloc (.cells #[.int .i64 0, .int .i64 0] 27)).heap.size = w1.heap.size + 1 := by simp
    have e3 := Blk.new (w1.alloc (.cells #[.int .i64 0, .int .i64 0] 27)) #[.int .i64 0, .int .i64 0] 27
    have a3 := (Below.refl (w1.alloc (.cells #[.int .i64 0, .int .i64 0] 27)).heap.size (w1.alloc (.cells #[.int .i64 0, .int .i64 0] 27))).alloc (Nat.le_refl _) (.cells #[.int .i64 0, .int .i64 0] 27)
    have D3 := Lib.hid (d2.out.past a3)
    rw [hsz] at e3
    have E3 : Hid (Sd w ((w1.alloc (.cells #[.int .i64 0, .int .i64 0] 27)).alloc (.cells #[.int .i64 0, .int .i64 0] 27)) (w1.heap.size + 1) 0 0) := Lib.hid ⟨D3.out.bel, Nat.le_succ_of_le S1.out.size, e3, ok_0, ok_0⟩
    have HN := Lib.hid (show w1.heap.size ≠ w1.heap.size + 1 by omega)
    clear a2 d2 hsz e3 a3 S1
    go_wp2_with fail
    generalize (w1.alloc (.cells #[.int .i64 0, .int .i64 0] 27)).alloc (.cells #[.int .i64 0, .int .i64 0] 27) = w3 at *
    generalize hg2 : w1.heap.size + 1 = g2 at *
    generalize w1.heap.size = g at *
    clear hg2
    go_loopw [12] (fun s12 wr => ∃ i : Nat, (i : Int) ≤ a ∧ s12 = .int .i64 i ∧ Hid (Sd w wr g i 0) ∧ Hid (Sd w wr g2 0 0)) (fun s12 _ => (a - intOf s12).toNat)
    case atStart => exact ⟨0, by omega, rfl, D3, E3⟩
    case round =>
      clear D3 E3
      obtain ⟨i, hi, rfl, HD, HE⟩ := hrel
      by_cases hlt : (i : Int) < a
      · go_wp2_with fail
        refine (HD.out.start (by omega)).mono ?_
        rintro e w4 ⟨rfl, d4, t4⟩
        have D4 := Lib.hid d4
        have E4 := Lib.hid (HE.out.far t4 HD.out.own HN.out.symm)
        clear d4 t4 HD HE
        go_wp2_with fail
        go_roundw
        case rel => exact ⟨i + 1, by omega, by go_num, Lib.hid (by have e : ((i + 1 : Nat) : Int) = (i : Int) + 1 := by omega
                                                                   rw [e]; exact D4.out), E4⟩
        case measure => simp [intOf]; omega
      · have hia : (i : Int) = a := by omega
        rw [hia] at HD
        have D4 := HD
        have E4 := HE
        clear HD HE hia
        go_wp2_with fail
        generalize wr = w4 at *
        go_loopw [13] (fun s13 wq => ∃ j : Nat, (j : Int) ≤ b ∧ s13 = .int .i64 j ∧ Hid (Sd w wq g a 0) ∧ Hid (Sd w wq g2 j 0)) (fun s13 _ => (b - intOf s13).toNat)
        case atStart => exact ⟨0, by omega, rfl, D4, E4⟩
        case round =>
          clear D4 E4
          obtain ⟨j, hj, rfl, HD, HE⟩ := hrel
          by_cases hlt2 : (j : Int) < b
          · go_wp2_with fail
            refine (HE.out.start (by omega)).mono ?_
            rintro e w5 ⟨rfl, e5, t5⟩
            have E5 := Lib.hid e5
            have D5 := Lib.hid (HD.out.far t5 HE.out.own HN.out)
            clear e5 t5 HD HE
            go_wp2_with fail
            go_roundw
            case rel => exact ⟨j + 1, by omega, by go_num, D5, Lib.hid (by have e : ((j + 1 : Nat) : Int) = (j : Int) + 1 := by omega
                                                                           rw [e]; exact E5.out)⟩
            case measure => simp [intOf]; omega
          · have hjb : (j : Int) = b := by omega
            rw [hjb] at HE
            have D6 := HD
            have E6 := HE
            clear HD HE hjb hj hi hlt
            have PV := Lib.hid (put_0 OV.out)
            have PU := Lib.hid (put_0 OU.out)
            go_wp2_with fail
            refine (D6.out.promise v).mono ?_
            rw [PV.out]
            rintro e w7 ⟨rfl, d7, t7⟩
            have D7 := Lib.hid d7
            have E7 := Lib.hid (E6.out.far t7 D6.out.own HN.out.symm)
            clear d7 t7 D6 E6
            generalize may 0 v = mv at *
            go_wp2_with fail
            refine (E7.out.promise u).mono ?_
            rw [PU.out]
            rintro e w8 ⟨rfl, e8, t8⟩
            have E8 := Lib.hid e8
            have D8 := Lib.hid (D7.out.far t8 E7.out.own HN.out)
            clear e8 t8 D7 E7
            generalize may 0 u = mu at *
            go_upto_region 17 with fail
            have hq := enc_q a v b u OA.out OV.out OB.out OU.out
            by_cases hab : a = b
            · by_cases hvu : v = u
              · have HQ := Lib.hid (hq.trans (decide_eq_true ⟨hab, hvu⟩))
                have tab : (a == b) = true := by simpa using hab
                have tvu : (v == u) = true := by simpa using hvu
                clear hq hab hvu
-- REGION curfew/curfewlaw19.StableTwins 17 stwins17tt 16
                refine Hb.begin ?_
                refine Hb.take (v := .int .i64 a) 5 68 rfl ?_ (fun _ _ => rfl)
                refine Hb.take (v := .int .i64 b) 6 69 rfl ?_ (fun _ _ => rfl)
                refine Hb.take (v := .bool true) 7 70 rfl ?_ (fun w' hw' => by go_simp; first | done | rfl | omega | exact wrap_in (by omega) (by omega) | exact Int.tmod_eq_emod_of_nonneg (by omega) | exact Int.tdiv_eq_ediv_of_nonneg (by omega) | (simp; omega))
                refine Hb.call (f := 13) (args := #[.pointer (some ⟨g, 0, none⟩)]) 0 63 rfl ?_ (run_callf Tryd.func13 (by kernel_rfl) (by kernel_rfl) (by simp only [List.map_toArray, List.map_cons, List.map_nil]; rfl))
                refine (D8.out.drew.bytes HT.out).mono ?_
                rintro e w9 ⟨A9, c9, rfl, ho9, b9⟩
                have R9 := Lib.hid (Rd.of_own ho9)
                have E9 := Lib.hid (E8.out.drew.past b9)
                have L9 := Lib.hid ((show Below w8.heap.size w8 w9 from (Below.refl _ _).drew.trans b9))
                clear ho9
                refine Hb.back b9 b9.size ?_
                refine Hb.take (v := .string (strOfNums (enc a v))) 1 64 rfl ?_ (fun w' hw' => by exact run_toStrOp 5 rfl (R9.out.below hw') Tryd.underlying33 Tryd.underlying5 Tryd.underlying9)
                refine Hb.call (f := 13) (args := #[.pointer (some ⟨g2, 0, none⟩)]) 2 65 rfl ?_ (run_callf Tryd.func13 (by kernel_rfl) (by kernel_rfl) (by simp only [List.map_toArray, List.map_cons, List.map_nil]; rfl))
                refine (E9.out.bytes HT.out).mono ?_
                rintro e w10 ⟨A10, c10, rfl, ho10, b10⟩
                have R10 := Lib.hid (Rd.of_own ho10)
                have R9' := Lib.hid (R9.out.past b10)
                have L10 := Lib.hid (L9.out.trans (b10.mono L9.out.size))
                clear ho10
                refine Hb.back b10 b10.size ?_
                refine Hb.take (v := .string (strOfNums (enc b u))) 3 66 rfl ?_ (fun w' hw' => by exact run_toStrOp 5 rfl (R10.out.below hw') Tryd.underlying33 Tryd.underlying5 Tryd.underlying9)
                refine Hb.take (v := .bool true) 4 67 rfl ?_ (fun w' hw' => by exact run_strEq rfl rfl HQ.out)
                refine Hb.take (v := .bool true) 8 71 rfl ?_ (fun _ _ => rfl)
                refine Hb.take (v := .int .i64 v) 9 72 rfl ?_ (fun _ _ => rfl)
                refine Hb.take (v := .int .i64 u) 10 73 rfl ?_ (fun _ _ => rfl)
                refine Hb.take (v := .bool true) 11 74 rfl ?_ (fun w' hw' => by go_simp; first | done | rfl | omega | exact wrap_in (by omega) (by omega) | exact Int.tmod_eq_emod_of_nonneg (by omega) | exact Int.tdiv_eq_ediv_of_nonneg (by omega) | (simp; omega))
                refine Hb.take (v := .bool true) 12 75 rfl ?_ (fun _ _ => rfl)
                refine Hb.take (v := .bool true) 13 76 rfl ?_ (fun w' hw' => by go_simp; first | done | rfl | omega | exact wrap_in (by omega) (by omega) | exact Int.tmod_eq_emod_of_nonneg (by omega) | exact Int.tdiv_eq_ediv_of_nonneg (by omega) | (simp; omega))
                refine Hb.take (v := .bool true) 14 8 rfl ?_ (fun _ _ => rfl)
                refine Hb.done ?_
-- END
                go_wp2_with fail
                go_ret
                exact ⟨rfl, D8.out.bel.trans (L10.out.mono D8.out.bel.size)⟩
              · have HQ := Lib.hid (hq.trans (decide_eq_false (fun h => hvu h.2)))
                have tab : (a == b) = true := by simpa using hab
                have tvu : (v == u) = false := by simpa using hvu
                clear hq hab hvu
-- REGION curfew/curfewlaw19.StableTwins 17 stwins17tf 16
                refine Hb.begin ?_
                refine Hb.take (v := .int .i64 a) 5 68 rfl ?_ (fun _ _ => rfl)
                refine Hb.take (v := .int .i64 b) 6 69 rfl ?_ (fun _ _ => rfl)
                refine Hb.take (v := .bool true) 7 70 rfl ?_ (fun w' hw' => by go_simp; first | done | rfl | omega | exact wrap_in (by omega) (by omega) | exact Int.tmod_eq_emod_of_nonneg (by omega) | exact Int.tdiv_eq_ediv_of_nonneg (by omega) | (simp; omega))
                refine Hb.call (f := 13) (args := #[.pointer (some ⟨g, 0, none⟩)]) 0 63 rfl ?_ (run_callf Tryd.func13 (by kernel_rfl) (by kernel_rfl) (by simp only [List.map_toArray, List.map_cons, List.map_nil]; rfl))
                refine (D8.out.drew.bytes HT.out).mono ?_
                rintro e w9 ⟨A9, c9, rfl, ho9, b9⟩
                have R9 := Lib.hid (Rd.of_own ho9)
                have E9 := Lib.hid (E8.out.drew.past b9)
                have L9 := Lib.hid ((show Below w8.heap.size w8 w9 from (Below.refl _ _).drew.trans b9))
                clear ho9
                refine Hb.back b9 b9.size ?_
                refine Hb.take (v := .string (strOfNums (enc a v))) 1 64 rfl ?_ (fun w' hw' => by exact run_toStrOp 5 rfl (R9.out.below hw') Tryd.underlying33 Tryd.underlying5 Tryd.underlying9)
                refine Hb.call (f := 13) (args := #[.pointer (some ⟨g2, 0, none⟩)]) 2 65 rfl ?_ (run_callf Tryd.func13 (by kernel_rfl) (by kernel_rfl) (by simp only [List.map_toArray, List.map_cons, List.map_nil]; rfl))
                refine (E9.out.bytes HT.out).mono ?_
                rintro e w10 ⟨A10, c10, rfl, ho10, b10⟩
                have R10 := Lib.hid (Rd.of_own ho10)
                have R9' := Lib.hid (R9.out.past b10)
                have L10 := Lib.hid (L9.out.trans (b10.mono L9.out.size))
                clear ho10
                refine Hb.back b10 b10.size ?_
                refine Hb.take (v := .string (strOfNums (enc b u))) 3 66 rfl ?_ (fun w' hw' => by exact run_toStrOp 5 rfl (R10.out.below hw') Tryd.underlying33 Tryd.underlying5 Tryd.underlying9)
                refine Hb.take (v := .bool false) 4 67 rfl ?_ (fun w' hw' => by exact run_strEq rfl rfl HQ.out)
                refine Hb.take (v := .bool true) 8 71 rfl ?_ (fun _ _ => rfl)
                refine Hb.take (v := .int .i64 v) 9 72 rfl ?_ (fun _ _ => rfl)
                refine Hb.take (v := .int .i64 u) 10 73 rfl ?_ (fun _ _ => rfl)
                refine Hb.take (v := .bool false) 11 74 rfl ?_ (fun w' hw' => by go_simp; first | done | rfl | omega | exact wrap_in (by omega) (by omega) | exact Int.tmod_eq_emod_of_nonneg (by omega) | exact Int.tdiv_eq_ediv_of_nonneg (by omega) | (simp; omega))
                refine Hb.take (v := .bool false) 12 75 rfl ?_ (fun _ _ => rfl)
                refine Hb.take (v := .bool true) 13 76 rfl ?_ (fun w' hw' => by go_simp; first | done | rfl | omega | exact wrap_in (by omega) (by omega) | exact Int.tmod_eq_emod_of_nonneg (by omega) | exact Int.tdiv_eq_ediv_of_nonneg (by omega) | (simp; omega))
                refine Hb.take (v := .bool true) 14 8 rfl ?_ (fun _ _ => rfl)
                refine Hb.done ?_
-- END
                go_wp2_with fail
                go_ret
                exact ⟨rfl, D8.out.bel.trans (L10.out.mono D8.out.bel.size)⟩
            · have HQ := Lib.hid (hq.trans (decide_eq_false (fun h => hab h.1)))
              have tab : (a == b) = false := by simpa using hab
              clear hq hab
-- REGION curfew/curfewlaw19.StableTwins 17 stwins17ff 14
              refine Hb.begin ?_
              refine Hb.take (v := .int .i64 a) 5 68 rfl ?_ (fun _ _ => rfl)
              refine Hb.take (v := .int .i64 b) 6 69 rfl ?_ (fun _ _ => rfl)
              refine Hb.take (v := .bool false) 7 70 rfl ?_ (fun w' hw' => by go_simp; first | done | rfl | omega | exact wrap_in (by omega) (by omega) | exact Int.tmod_eq_emod_of_nonneg (by omega) | exact Int.tdiv_eq_ediv_of_nonneg (by omega) | (simp; omega))
              refine Hb.call (f := 13) (args := #[.pointer (some ⟨g, 0, none⟩)]) 0 63 rfl ?_ (run_callf Tryd.func13 (by kernel_rfl) (by kernel_rfl) (by simp only [List.map_toArray, List.map_cons, List.map_nil]; rfl))
              refine (D8.out.drew.bytes HT.out).mono ?_
              rintro e w9 ⟨A9, c9, rfl, ho9, b9⟩
              have R9 := Lib.hid (Rd.of_own ho9)
              have E9 := Lib.hid (E8.out.drew.past b9)
              have L9 := Lib.hid ((show Below w8.heap.size w8 w9 from (Below.refl _ _).drew.trans b9))
              clear ho9
              refine Hb.back b9 b9.size ?_
              refine Hb.take (v := .string (strOfNums (enc a v))) 1 64 rfl ?_ (fun w' hw' => by exact run_toStrOp 5 rfl (R9.out.below hw') Tryd.underlying33 Tryd.underlying5 Tryd.underlying9)
              refine Hb.call (f := 13) (args := #[.pointer (some ⟨g2, 0, none⟩)]) 2 65 rfl ?_ (run_callf Tryd.func13 (by kernel_rfl) (by kernel_rfl) (by simp only [List.map_toArray, List.map_cons, List.map_nil]; rfl))
              refine (E9.out.bytes HT.out).mono ?_
              rintro e w10 ⟨A10, c10, rfl, ho10, b10⟩
              have R10 := Lib.hid (Rd.of_own ho10)
              have R9' := Lib.hid (R9.out.past b10)
              have L10 := Lib.hid (L9.out.trans (b10.mono L9.out.size))
              clear ho10
              refine Hb.back b10 b10.size ?_
              refine Hb.take (v := .string (strOfNums (enc b u))) 3 66 rfl ?_ (fun w' hw' => by exact run_toStrOp 5 rfl (R10.out.below hw') Tryd.underlying33 Tryd.underlying5 Tryd.underlying9)
              refine Hb.take (v := .bool false) 4 67 rfl ?_ (fun w' hw' => by exact run_strEq rfl rfl HQ.out)
              refine Hb.take (v := .bool false) 8 71 rfl ?_ (fun _ _ => rfl)
              refine Hb.pass 9 72 rfl ?_
              refine Hb.pass 10 73 rfl ?_
              refine Hb.pass 11 74 rfl ?_
              refine Hb.take (v := .bool false) 12 75 rfl ?_ (fun _ _ => rfl)
              refine Hb.take (v := .bool true) 13 76 rfl ?_ (fun w' hw' => by go_simp; first | done | rfl | omega | exact wrap_in (by omega) (by omega) | exact Int.tmod_eq_emod_of_nonneg (by omega) | exact Int.tdiv_eq_ediv_of_nonneg (by omega) | (simp; omega))
              refine Hb.take (v := .bool true) 14 8 rfl ?_ (fun _ _ => rfl)
              refine Hb.done ?_
-- END
              go_wp2_with fail
              go_ret
              exact ⟨rfl, D8.out.bel.trans (L10.out.mono D8.out.bel.size)⟩
end Go.Proofs.YtkdcafigcodbgaaDoor
