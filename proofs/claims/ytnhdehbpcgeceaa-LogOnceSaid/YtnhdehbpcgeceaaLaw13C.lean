/- The walk of LogOnce. -/
import Derived.Test.YtnhdehbpcgeceaaLogF
import Derived.Test.YtnhdehbpcgeceaaEntL
namespace Go.Proofs.Ytnhdehbpcgeceaa
open Go.RowKit

set_option maxHeartbeats 8000000 in
set_option maxRecDepth 100000 in
theorem LogOnce_w (w : World) (A : Option Addr) (c n : Nat) (z : List Ent) (R : Rd w w.heap.size A c 7 n (els z)) (ok : ∀ e ∈ z, EntOk e) :
    Calls Try.prog 9 #[.slice A n c] w fun e w' => e = .returned (.bool true) ∧ Below w.heap.size w w' := by
  have P1 := Lib.hid R
  have O1 := Lib.hid ok
  clear R ok
  go_enter Try.func9, Try.ntmps9
  go_wp2_with fail
  refine (begun_c w).mono ?_
  rintro x w1 ⟨rfl, b1⟩
  have B1 := Lib.hid b1
  clear b1
  go_wp2_with fail
  refine (lEntries_c w1 A c n z 40 (P1.out.past B1.out).tight O1.out (by omega) (by omega)).mono ?_
  rintro x w2 ⟨A2, c2, es, rfl, hl2, o2, -, b2⟩
  have N2 := Lib.hid (Rd.of_own o2)
  have B2 := Lib.hid (B1.out.trans (b2.mono B1.out.size))
  clear o2 b2 B1 P1 O1 hl2
  go_wp2_with fail
  refine (New_c w2 _ A2 c2 es.length es N2.out).mono ?_
  have HW0 := Lib.hid (PLog.log_ok es)
  have HWL := Lib.hid (PLog.log_len es)
  have HWE := Lib.hid (show PLog.log es = PLog.log es from rfl)
  obtain ⟨W, hW⟩ : ∃ W, PLog.log es = W := ⟨_, rfl⟩
  rw [hW] at HW0 HWL ⊢
  have HW := Lib.hid hW
  clear hW HWE
  rintro x w3 ⟨g, F, rfl, l3, -, b3⟩
  have L3 := Lib.hid l3
  have N3 := Lib.hid (N2.out.past b3).tight
  have B3 := Lib.hid (B2.out.trans (b3.mono B2.out.size))
  clear l3 b3 B2 N2
  go_wp2_with fail
  refine (From_0 w3 g F W L3.out).mono ?_
  obtain ⟨m, hm⟩ : ∃ m, W.length = m := ⟨_, rfl⟩
  have HM := Lib.hid hm
  have hm60 : m ≤ 60 := by rw [← hm]; exact HWL.out
  rw [hm]
  clear hm
  rintro x w4 ⟨Ax, cx, rfl, o4, b4⟩
  have RX0 := Lib.hid (Rd.of_own o4)
  have N4 := Lib.hid (N3.out.past b4).tight
  have B4 := Lib.hid (B3.out.trans (b4.mono B3.out.size))
  clear o4 b4 B3 N3 L3
  go_wp2_with fail
  go_loopw [5] (fun s5 wr => ∃ i : Nat, i ≤ m ∧ s5 = .int .i64 i ∧ Hid (Rd wr wr.heap.size Ax cx 7 m (els W)) ∧ Hid (Rd wr wr.heap.size A2 c2 7 es.length (els es)) ∧ Hid (Below w.heap.size w wr)) (fun s5 _ => m - (intOf s5).toNat)
  case atStart => exact ⟨0, by omega, rfl, RX0, N4, B4⟩
  case round =>
    clear RX0 N4 B4
    obtain ⟨i, hi, rfl, RX1, RN1, BT1⟩ := hrel
    by_cases hin : i < m
    · obtain ⟨b, o, y, rfl, -, hy, hmem, -⟩ := RX1.out.entR hin
      have HY := Lib.hid hy
      have HMY := Lib.hid (PLog.okN_may W [] HW0.out y hmem)
      clear hy hmem
      go_wp2_with fail
      go_loopw [6] (fun s6 wr => ∃ k : Nat, k ≤ i ∧ s6 = .int .i64 k ∧ Hid (Rd wr wr.heap.size (some ⟨b, o, none⟩) cx 7 m (els W)) ∧ Hid (Rd wr wr.heap.size A2 c2 7 es.length (els es)) ∧ Hid (Below w.heap.size w wr)) (fun s6 _ => i - (intOf s6).toNat)
      case atStart => exact ⟨0, by omega, rfl, RX1, RN1, BT1⟩
      case round =>
        clear RX1 RN1 BT1
        obtain ⟨k, hk, rfl, RX2, RN2, BT2⟩ := hrel
        obtain ⟨b', o', y', hA', hb', -, -, -⟩ := RX2.out.entR hin
        cases hA'
        have HB := Lib.hid (show b < wr.drew.heap.size from hb')
        have RX := Lib.hid (show Rd wr.drew wr.drew.heap.size (some ⟨b, o, none⟩) cx 7 m (els W) from RX2.out)
        have RN := Lib.hid (show Rd wr.drew wr.drew.heap.size A2 c2 7 es.length (els es) from RN2.out)
        have BT := Lib.hid (BT2.out.drew)
        clear RX2 RN2 BT2 hb'
        by_cases hki : k < i
        · obtain ⟨v, hv⟩ : ∃ v, W[k]? = some v := ⟨W[k]'(by rw [HM.out]; omega), List.getElem?_eq_getElem _⟩
          have HV := Lib.hid hv
          have HS := Lib.hid (PLog.ok_twin HW0.out HY.out hv hki)
          have jki : (k : Int) < (i : Int) := by omega
          clear hv
          go_wp2_with fail
-- REGION curfew/curfewlaw13.LogOnce 12 lonce12 10
          refine Hb.begin ?_
          refine Hb.take (v := .slice (some ⟨b, o, none⟩) m cx) 0 26 rfl ?_ (fun _ _ => rfl)
          refine Hb.take (v := .int .i64 (i : Int)) 1 27 rfl ?_ (fun _ _ => rfl)
          refine Hb.take (v := .pointer (some ⟨b, o + i * 7, none⟩)) 2 28 rfl ?_ (fun w' hw' => by go_simp; first | done | rfl | omega | exact wrap_in (by omega) (by omega) | exact Int.tmod_eq_emod_of_nonneg (by omega) | exact Int.tdiv_eq_ediv_of_nonneg (by omega) | (simp; omega))
          refine Hb.take (v := ev y) 3 29 rfl ?_ (fun w' hw' => by exact run_loadE (rangeAt_below (RX.out.rangeOf rfl HY.out) hw' HB.out) rfl)
          refine Hb.take (v := .slice (some ⟨b, o, none⟩) m cx) 4 30 rfl ?_ (fun _ _ => rfl)
          refine Hb.take (v := .int .i64 (k : Int)) 5 31 rfl ?_ (fun _ _ => rfl)
          refine Hb.take (v := .pointer (some ⟨b, o + k * 7, none⟩)) 6 32 rfl ?_ (fun w' hw' => by go_simp; first | done | rfl | omega | exact wrap_in (by omega) (by omega) | exact Int.tmod_eq_emod_of_nonneg (by omega) | exact Int.tdiv_eq_ediv_of_nonneg (by omega) | (simp; omega))
          refine Hb.take (v := ev v) 7 33 rfl ?_ (fun w' hw' => by exact run_loadE (rangeAt_below (RX.out.rangeOf rfl HV.out) hw' HB.out) rfl)
          refine Hb.call (f := 26) (args := #[ev y, ev v]) 8 34 rfl ?_ (run_callf Try.func26 (by kernel_rfl) (by kernel_rfl) (by simp only [List.map_toArray, List.map_cons, List.map_nil]; rfl))
          refine (rSame_c _ y v).mono ?_
          rw [HS.out]
          rintro x w7 ⟨rfl, b7⟩
          refine Hb.back b7 (Nat.le_refl _) ?_
          refine Hb.done ?_
-- END
          go_wp2_with fail
          go_roundw
          case rel => exact ⟨k + 1, by omega, by go_num, Lib.hid (RX.out.past b7).tight, Lib.hid (RN.out.past b7).tight, Lib.hid (BT.out.trans (b7.mono BT.out.size))⟩
          case measure => simp [intOf]; omega
        · obtain rfl : k = i := by omega
          by_cases hi0 : k = 0
          · have ji0 : ¬ (0 : Int) < (k : Int) := by omega
            clear hi0
            go_wp2_with fail
-- REGION curfew/curfewlaw13.LogOnce 14 lonce14z 12
            refine Hb.begin ?_
            refine Hb.take (v := .int .i64 (k : Int)) 0 35 rfl ?_ (fun _ _ => rfl)
            refine Hb.take (v := .bool false) 1 36 rfl ?_ (fun w' hw' => by go_simp; first | done | rfl | omega | exact wrap_in (by omega) (by omega) | exact Int.tmod_eq_emod_of_nonneg (by omega) | exact Int.tdiv_eq_ediv_of_nonneg (by omega) | (simp; omega))
            refine Hb.take (v := .bool false) 2 37 rfl ?_ (fun _ _ => rfl)
            refine Hb.pass 3 38 rfl ?_
            refine Hb.pass 4 39 rfl ?_
            refine Hb.pass 5 40 rfl ?_
            refine Hb.pass 6 41 rfl ?_
            refine Hb.pass 7 42 rfl ?_
            refine Hb.pass 8 43 rfl ?_
            refine Hb.pass 9 44 rfl ?_
            refine Hb.pass 10 45 rfl ?_
            refine Hb.pass 11 46 rfl ?_
            refine Hb.pass 12 47 rfl ?_
            refine Hb.pass 13 48 rfl ?_
            refine Hb.pass 14 49 rfl ?_
            refine Hb.take (v := .bool false) 15 50 rfl ?_ (fun _ _ => rfl)
            refine Hb.take (v := .bool false) 16 51 rfl ?_ (fun _ _ => rfl)
            refine Hb.take (v := .slice (some ⟨b, o, none⟩) m cx) 17 52 rfl ?_ (fun _ _ => rfl)
            refine Hb.take (v := .int .i64 (k : Int)) 18 53 rfl ?_ (fun _ _ => rfl)
            refine Hb.take (v := .pointer (some ⟨b, o + k * 7, none⟩)) 19 54 rfl ?_ (fun w' hw' => by go_simp; first | done | rfl | omega | exact wrap_in (by omega) (by omega) | exact Int.tmod_eq_emod_of_nonneg (by omega) | exact Int.tdiv_eq_ediv_of_nonneg (by omega) | (simp; omega))
            refine Hb.take (v := ev y) 20 55 rfl ?_ (fun w' hw' => by exact run_loadE (rangeAt_below (RX.out.rangeOf rfl HY.out) hw' HB.out) rfl)
            refine Hb.call (f := 27) (args := #[ev y]) 21 56 rfl ?_ (run_callf Try.func27 (by kernel_rfl) (by kernel_rfl) (by simp only [List.map_toArray, List.map_cons, List.map_nil]; rfl))
            refine (rMay_c _ y).mono ?_
            rw [HMY.out]
            rintro x w7 ⟨rfl, b7⟩
            refine Hb.back b7 (Nat.le_refl _) ?_
            refine Hb.take (v := .bool false) 22 57 rfl ?_ (fun w' hw' => by go_simp; first | done | rfl | omega | exact wrap_in (by omega) (by omega) | exact Int.tmod_eq_emod_of_nonneg (by omega) | exact Int.tdiv_eq_ediv_of_nonneg (by omega) | (simp; omega))
            refine Hb.take (v := .bool false) 23 58 rfl ?_ (fun _ _ => rfl)
            refine Hb.done ?_
-- END
            go_wp2_with fail
            go_roundw
            case rel => exact ⟨k + 1, by omega, by go_num, Lib.hid (RX.out.past b7).tight, Lib.hid (RN.out.past b7).tight, Lib.hid (BT.out.trans (b7.mono BT.out.size))⟩
            case measure => simp [intOf]; omega
          · obtain ⟨j, hj⟩ : ∃ j, k = j + 1 := ⟨k - 1, by omega⟩
            have ji0 : (0 : Int) < (k : Int) := by omega
            have jj : (k : Int) - 1 = (j : Int) := by omega
            have jm : j < m := by omega
            obtain ⟨v, hv⟩ : ∃ v, W[j]? = some v := ⟨W[j]'(by rw [HM.out]; omega), List.getElem?_eq_getElem _⟩
            have HV := Lib.hid hv
            have hst : ¬ y.stamp < v.stamp := by
              have h1 := HY.out
              rw [hj] at h1
              have := PLog.ok_stamp HW0.out h1 hv
              omega
            clear hv hi0 hj
            go_wp2_with fail
-- REGION curfew/curfewlaw13.LogOnce 14 lonce14 12
            refine Hb.begin ?_
            refine Hb.take (v := .int .i64 (k : Int)) 0 35 rfl ?_ (fun _ _ => rfl)
            refine Hb.take (v := .bool true) 1 36 rfl ?_ (fun w' hw' => by go_simp; first | done | rfl | omega | exact wrap_in (by omega) (by omega) | exact Int.tmod_eq_emod_of_nonneg (by omega) | exact Int.tdiv_eq_ediv_of_nonneg (by omega) | (simp; omega))
            refine Hb.take (v := .bool true) 2 37 rfl ?_ (fun _ _ => rfl)
            refine Hb.take (v := .slice (some ⟨b, o, none⟩) m cx) 3 38 rfl ?_ (fun _ _ => rfl)
            refine Hb.take (v := .int .i64 (k : Int)) 4 39 rfl ?_ (fun _ _ => rfl)
            refine Hb.take (v := .pointer (some ⟨b, o + k * 7, none⟩)) 5 40 rfl ?_ (fun w' hw' => by go_simp; first | done | rfl | omega | exact wrap_in (by omega) (by omega) | exact Int.tmod_eq_emod_of_nonneg (by omega) | exact Int.tdiv_eq_ediv_of_nonneg (by omega) | (simp; omega))
            refine Hb.take (v := .pointer (some ⟨b, o + k * 7 + 5, none⟩)) 6 41 rfl ?_ (fun w' hw' => by go_simp; first | done | rfl | omega | exact wrap_in (by omega) (by omega) | exact Int.tmod_eq_emod_of_nonneg (by omega) | exact Int.tdiv_eq_ediv_of_nonneg (by omega) | (simp; omega))
            refine Hb.take (v := .int .i64 y.stamp) 7 42 rfl ?_ (fun w' hw' => by exact run_loadI ((hw'.cell (p := ⟨b, o + k * 7 + 5, none⟩) HB.out).trans (range_stamp (RX.out.rangeOf rfl HY.out))) rfl)
            refine Hb.take (v := .slice (some ⟨b, o, none⟩) m cx) 8 43 rfl ?_ (fun _ _ => rfl)
            refine Hb.take (v := .int .i64 (k : Int)) 9 44 rfl ?_ (fun _ _ => rfl)
            refine Hb.take (v := .int .i64 (j : Int)) 10 45 rfl ?_ (fun w' hw' => by go_simp; first | done | rfl | omega | exact wrap_in (by omega) (by omega) | exact Int.tmod_eq_emod_of_nonneg (by omega) | exact Int.tdiv_eq_ediv_of_nonneg (by omega) | (simp; omega))
            refine Hb.take (v := .pointer (some ⟨b, o + j * 7, none⟩)) 11 46 rfl ?_ (fun w' hw' => by go_simp; first | done | rfl | omega | exact wrap_in (by omega) (by omega) | exact Int.tmod_eq_emod_of_nonneg (by omega) | exact Int.tdiv_eq_ediv_of_nonneg (by omega) | (simp; omega))
            refine Hb.take (v := .pointer (some ⟨b, o + j * 7 + 5, none⟩)) 12 47 rfl ?_ (fun w' hw' => by go_simp; first | done | rfl | omega | exact wrap_in (by omega) (by omega) | exact Int.tmod_eq_emod_of_nonneg (by omega) | exact Int.tdiv_eq_ediv_of_nonneg (by omega) | (simp; omega))
            refine Hb.take (v := .int .i64 v.stamp) 13 48 rfl ?_ (fun w' hw' => by exact run_loadI ((hw'.cell (p := ⟨b, o + j * 7 + 5, none⟩) HB.out).trans (range_stamp (RX.out.rangeOf rfl HV.out))) rfl)
            refine Hb.take (v := .bool false) 14 49 rfl ?_ (fun w' hw' => by go_simp; first | done | rfl | omega | exact wrap_in (by omega) (by omega) | exact Int.tmod_eq_emod_of_nonneg (by omega) | exact Int.tdiv_eq_ediv_of_nonneg (by omega) | (simp; omega))
            refine Hb.take (v := .bool false) 15 50 rfl ?_ (fun _ _ => rfl)
            refine Hb.take (v := .bool false) 16 51 rfl ?_ (fun _ _ => rfl)
            refine Hb.take (v := .slice (some ⟨b, o, none⟩) m cx) 17 52 rfl ?_ (fun _ _ => rfl)
            refine Hb.take (v := .int .i64 (k : Int)) 18 53 rfl ?_ (fun _ _ => rfl)
            refine Hb.take (v := .pointer (some ⟨b, o + k * 7, none⟩)) 19 54 rfl ?_ (fun w' hw' => by go_simp; first | done | rfl | omega | exact wrap_in (by omega) (by omega) | exact Int.tmod_eq_emod_of_nonneg (by omega) | exact Int.tdiv_eq_ediv_of_nonneg (by omega) | (simp; omega))
            refine Hb.take (v := ev y) 20 55 rfl ?_ (fun w' hw' => by exact run_loadE (rangeAt_below (RX.out.rangeOf rfl HY.out) hw' HB.out) rfl)
            refine Hb.call (f := 27) (args := #[ev y]) 21 56 rfl ?_ (run_callf Try.func27 (by kernel_rfl) (by kernel_rfl) (by simp only [List.map_toArray, List.map_cons, List.map_nil]; rfl))
            refine (rMay_c _ y).mono ?_
            rw [HMY.out]
            rintro x w7 ⟨rfl, b7⟩
            refine Hb.back b7 (Nat.le_refl _) ?_
            refine Hb.take (v := .bool false) 22 57 rfl ?_ (fun w' hw' => by go_simp; first | done | rfl | omega | exact wrap_in (by omega) (by omega) | exact Int.tmod_eq_emod_of_nonneg (by omega) | exact Int.tdiv_eq_ediv_of_nonneg (by omega) | (simp; omega))
            refine Hb.take (v := .bool false) 23 58 rfl ?_ (fun _ _ => rfl)
            refine Hb.done ?_
-- END
            go_wp2_with fail
            go_roundw
            case rel => exact ⟨k + 1, by omega, by go_num, Lib.hid (RX.out.past b7).tight, Lib.hid (RN.out.past b7).tight, Lib.hid (BT.out.trans (b7.mono BT.out.size))⟩
            case measure => simp [intOf]; omega
    · obtain rfl : i = m := by omega
      go_wp2_with fail
      refine (rLog_c wr _ A2 c2 es.length es RN1.out).mono ?_
      rw [HW.out, HM.out]
      rintro x w5 ⟨A5, c5, rfl, o5, b5⟩
      have R5 := Lib.hid (Rd.of_own o5)
      have RX5 := Lib.hid (RX1.out.past b5).tight
      have B5 := Lib.hid (BT1.out.trans (b5.mono BT1.out.size))
      clear o5 b5
      go_wp2_with fail
      refine (EqAll_c w5 Ax A5 cx i c5 i W W RX5.out R5.out).mono ?_
      rw [PLog.eqL_self]
      rintro x w6 ⟨rfl, b6⟩
      go_wp2_with fail
      go_ret
      exact ⟨rfl, B5.out.trans (b6.mono B5.out.size)⟩
end Go.Proofs.Ytnhdehbpcgeceaa
