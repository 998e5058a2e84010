/- Contract of the statements' same. -/
import Derived.Test.YtnhdehbpcgeceaaLogD
namespace Go.Proofs.Ytnhdehbpcgeceaa
open Go.RowKit

theorem From_0 (w : World) (g : Nat) (F : List Nat) (L : List Ent) (h : Lg w g F L) :
    Calls Try.prog 25 #[.pointer (some ⟨g, 0, none⟩), .int .i64 0] w fun x w' => ∃ A' c', x = .returned (.slice A' L.length c') ∧ w'.ownsRow w.heap.size 34 7 (.slice A' L.length c') L.length (els L) ∧ Below w.heap.size w w' := by
  have := From_in w g F L h 0 (Nat.zero_le _)
  simp only [Nat.sub_zero, List.drop_zero] at this
  exact this
theorem Rd.below2 {w w' : World} {B c k n : Nat} {A : Option Addr} {xs : List Value} (h : Rd w B A c k n xs) (hb : Below w.heap.size w w') : Rd w' w'.heap.size A c k n xs := (h.past hb).tight

set_option maxHeartbeats 8000000 in
set_option maxRecDepth 100000 in
theorem same_c (w : World) (g : Nat) (F : List Nat) (L : List Ent) (h : Lg w g F L) (B : Nat) (A : Option Addr) (c n : Nat) (R : Rd w B A c 7 n (els L)) :
    Calls Try.prog 19 #[.pointer (some ⟨g, 0, none⟩), .slice A n c] w fun x w' => x = .returned (.bool true) ∧ Below w.heap.size w w' := by
  obtain rfl : L.length = n := R.elen
  have h60 := h.le
  have L0 := Lib.hid h
  have R0 := Lib.hid R.tight
  clear h R
  go_enter Try.func19, Try.ntmps19
  go_wp2_with fail
  refine (Len_c w g F L L0.out).mono ?_
  rintro x w' ⟨rfl, rfl⟩
  go_wp2_with fail
  refine (From_0 w g F L L0.out).mono ?_
  rintro x w1 ⟨A1, c1, rfl, o1, b1⟩
  have L1 := Lib.hid (L0.out.past b1)
  have R1 := Lib.hid (R0.out.past b1).tight
  have B1 := Lib.hid b1
  have N1 := Lib.hid (Rd.of_own o1)
  clear o1 b1
  go_wp2_with fail
  refine (EqAll_c w1 A1 A c1 L.length c L.length L L N1.out R1.out).mono ?_
  rw [PLog.eqL_self]
  rintro x w2 ⟨rfl, b2⟩
  have L2 := Lib.hid (L1.out.past b2)
  have R2 := Lib.hid (R1.out.past b2).tight
  have B2 := Lib.hid (B1.out.trans (b2.mono B1.out.size))
  clear b2 L1 R1 B1 N1 L0 R0
  go_wp2_with fail
  go_loopw [5] (fun s5 wr => ∃ i : Nat, i ≤ L.length ∧ s5 = .int .i64 i ∧ Hid (Lg wr g F L) ∧ Hid (Rd wr wr.heap.size A c 7 L.length (els L)) ∧ Hid (Below w.heap.size w wr)) (fun s5 _ => L.length - (intOf s5).toNat)
  case atStart => exact ⟨0, by omega, rfl, L2, R2, B2⟩
  case round =>
    clear L2 R2 B2
    obtain ⟨i, hi, rfl, LR, RR, BR⟩ := hrel
    by_cases hin : i < L.length
    · obtain ⟨b, o, y, rfl, hb, hy, -, -⟩ := RR.out.entR hin
      have HY := Lib.hid hy
      have HLT := Lib.hid hin
      have HIN := Lib.hid (PLog.has_mem (List.mem_of_getElem? hy))
      clear hy
      go_wp2_with fail
      refine (At_in wr g F L LR.out i y HY.out).mono ?_
      rintro x w3 ⟨rfl, b3⟩
      have b4 := (Below.refl w3.heap.size w3).alloc (Nat.le_refl _) (.cells #[.int .i64 y.fr, .int .i64 y.boot, .int .i64 y.seq, .int .i64 y.ord, .int .i64 y.lev, .int .i64 y.stamp, .string y.data] 34)
      have L4 := Lib.hid ((LR.out.past b3).past b4)
      have R4 := Lib.hid ((RR.out.past b3).past b4).tight
      have B4 := Lib.hid (BR.out.trans ((b3.trans (b4.mono b3.size)).mono BR.out.size))
      have K4 := Lib.hid (Blk.newEnt w3 34 y)
      have HB4 := Lib.hid (show b < (w3.alloc (.cells #[.int .i64 y.fr, .int .i64 y.boot, .int .i64 y.seq, .int .i64 y.ord, .int .i64 y.lev, .int .i64 y.stamp, .string y.data] 34)).heap.size from Nat.lt_of_lt_of_le hb (Nat.le_trans b3.size b4.size))
      clear b3 b4 hb LR RR BR
      simp only [ev]
      go_wp2_with fail
      obtain ⟨gx, hgx⟩ : ∃ x, w3.heap.size = x := ⟨_, rfl⟩
      rw [hgx] at K4 ⊢
      generalize (w3.alloc (.cells #[.int .i64 y.fr, .int .i64 y.boot, .int .i64 y.seq, .int .i64 y.ord, .int .i64 y.lev, .int .i64 y.stamp, .string y.data] 34)) = w4 at *
      clear hgx
      have LX := Lib.hid (show gx < w4.drew.heap.size from K4.out.lt)
      have KX := Lib.hid (show Blk w4.drew gx 34 (ecs y) from K4.out)
      have RW := Lib.hid (show Rd w4.drew w4.heap.size (some ⟨b, o, none⟩) c 7 L.length (els L) from R4.out)
      have LG := Lib.hid L4.out.drew
      have HB := Lib.hid (show b < w4.drew.heap.size from HB4.out)
      have BN := Lib.hid (Below.refl w4.drew.heap.size w4.drew)
      obtain ⟨A8, c8, hrun, r8⟩ := cut_any (P := Try.prog) (w := w4.drew) 22 34 Try.underlying22 ent_info RW.out (some (.int .i64 i)) none i L.length i 0 (Or.inr ⟨rfl, rfl⟩) (Or.inl ⟨rfl, rfl⟩) hi (Nat.le_refl _)
      have e8 : ((els L).drop (i * 7)).take ((L.length - i) * 7) = els (L.drop i) := by
        rw [els_drop, els_take]; congr 1; exact List.take_of_length_le (by simp)
      rw [e8] at r8
      have R8 := Lib.hid r8
      clear r8 e8
-- REGION curfew/curfewlaw13.same 7 same7 6
      refine Hb.begin ?_
      refine Hb.take (v := .bool true) 0 37 rfl ?_ (fun _ _ => rfl)
      refine Hb.take (v := .bool false) 1 38 rfl ?_ (fun w' hw' => by go_simp; first | done | rfl | omega | exact wrap_in (by omega) (by omega) | exact Int.tmod_eq_emod_of_nonneg (by omega) | exact Int.tdiv_eq_ediv_of_nonneg (by omega) | (simp; omega))
      refine Hb.take (v := .bool false) 2 39 rfl ?_ (fun _ _ => rfl)
      refine Hb.take (v := ev y) 3 40 rfl ?_ (fun w' hw' => by exact run_loadE ((KX.out.below hw' (Nat.lt_of_lt_of_le LX.out (Nat.le_refl _))).range) rfl)
      refine Hb.take (v := .slice (some ⟨b, o, none⟩) L.length c) 4 41 rfl ?_ (fun _ _ => rfl)
      refine Hb.take (v := .int .i64 (i : Int)) 5 42 rfl ?_ (fun _ _ => rfl)
      refine Hb.take (v := .pointer (some ⟨b, o + i * 7, none⟩)) 6 43 rfl ?_ (fun w' hw' => by go_simp; first | done | rfl | omega | exact wrap_in (by omega) (by omega) | exact Int.tmod_eq_emod_of_nonneg (by omega) | exact Int.tdiv_eq_ediv_of_nonneg (by omega) | (simp; omega))
      refine Hb.take (v := ev y) 7 44 rfl ?_ (fun w' hw' => by exact run_loadE (rangeAt_below (RW.out.rangeOf rfl HY.out) hw' HB.out) rfl)
      refine Hb.call (f := 31) (args := #[ev y, ev y]) 8 45 rfl ?_ (run_callf Try.func31 (by kernel_rfl) (by kernel_rfl) (by simp only [List.map_toArray, List.map_cons, List.map_nil]; rfl))
      refine (rEq_c _ y y).mono ?_
      rw [PLog.eqE_self]
      rintro x w5 ⟨rfl, b5⟩
      have c5 := b5.mono BN.out.size
      have LG := Lib.hid (LG.out.past b5)
      have RW := Lib.hid (RW.out.past b5)
      have KX := Lib.hid (KX.out.past b5)
      have BN := Lib.hid (BN.out.trans (b5.mono BN.out.size))
      refine Hb.back c5 (Nat.le_refl _) ?_
      refine Hb.take (v := .bool false) 9 46 rfl ?_ (fun w' hw' => by go_simp; first | done | rfl | omega | exact wrap_in (by omega) (by omega) | exact Int.tmod_eq_emod_of_nonneg (by omega) | exact Int.tdiv_eq_ediv_of_nonneg (by omega) | (simp; omega))
      refine Hb.take (v := .bool false) 10 47 rfl ?_ (fun _ _ => rfl)
      refine Hb.take (v := .bool false) 11 48 rfl ?_ (fun _ _ => rfl)
      refine Hb.take (v := .pointer (some ⟨g, 0, none⟩)) 12 49 rfl ?_ (fun _ _ => rfl)
      refine Hb.take (v := .slice (some ⟨b, o, none⟩) L.length c) 13 50 rfl ?_ (fun _ _ => rfl)
      refine Hb.take (v := .int .i64 (i : Int)) 14 51 rfl ?_ (fun _ _ => rfl)
      refine Hb.take (v := .pointer (some ⟨b, o + i * 7, none⟩)) 15 52 rfl ?_ (fun w' hw' => by go_simp; first | done | rfl | omega | exact wrap_in (by omega) (by omega) | exact Int.tmod_eq_emod_of_nonneg (by omega) | exact Int.tdiv_eq_ediv_of_nonneg (by omega) | (simp; omega))
      refine Hb.take (v := ev y) 16 53 rfl ?_ (fun w' hw' => by exact run_loadE (rangeAt_below (RW.out.rangeOf rfl HY.out) hw' HB.out) rfl)
      refine Hb.call (f := 24) (args := #[.pointer (some ⟨g, 0, none⟩), ev y]) 17 54 rfl ?_ (run_callf Try.func24 (by kernel_rfl) (by kernel_rfl) (by simp only [List.map_toArray, List.map_cons, List.map_nil]; rfl))
      refine (Has_c _ g F L LG.out y).mono ?_
      rw [HIN.out]
      rintro x w6 ⟨rfl, b6⟩
      have c6 := b6.mono BN.out.size
      have LG := Lib.hid (LG.out.past b6)
      have RW := Lib.hid (RW.out.past b6)
      have KX := Lib.hid (KX.out.past b6)
      have BN := Lib.hid (BN.out.trans (b6.mono BN.out.size))
      refine Hb.back c6 (Nat.le_refl _) ?_
      refine Hb.take (v := .bool false) 18 55 rfl ?_ (fun w' hw' => by go_simp; first | done | rfl | omega | exact wrap_in (by omega) (by omega) | exact Int.tmod_eq_emod_of_nonneg (by omega) | exact Int.tdiv_eq_ediv_of_nonneg (by omega) | (simp; omega))
      refine Hb.take (v := .bool false) 19 56 rfl ?_ (fun _ _ => rfl)
      refine Hb.take (v := .bool false) 20 57 rfl ?_ (fun _ _ => rfl)
      refine Hb.take (v := .pointer (some ⟨g, 0, none⟩)) 21 58 rfl ?_ (fun _ _ => rfl)
      refine Hb.take (v := .int .i64 (i : Int)) 22 59 rfl ?_ (fun _ _ => rfl)
      refine Hb.take (v := .slice (some ⟨b, o, none⟩) L.length c) 24 61 rfl ?_ (fun _ _ => rfl)
      refine Hb.take (v := .int .i64 (i : Int)) 25 62 rfl ?_ (fun _ _ => rfl)
      refine Hb.take (v := .slice A8 (L.length - i) c8) 26 63 rfl ?_ (fun w' hw' => by exact run_sliceOp (hrun w'))
      refine Hb.call (f := 25) (args := #[.pointer (some ⟨g, 0, none⟩), .int .i64 (i : Int)]) 23 60 rfl ?_ (run_callf Try.func25 (by kernel_rfl) (by kernel_rfl) (by simp only [List.map_toArray, List.map_cons, List.map_nil]; rfl))
      refine (From_in _ g F L LG.out i (Nat.le_of_lt HLT.out)).mono ?_
      rintro x w7 ⟨A7, cc7, rfl, o7, b7⟩
      have c7 := b7.mono BN.out.size
      have R7 := Lib.hid (Rd.of_own o7)
      clear o7
      have LG := Lib.hid (LG.out.past b7)
      have RW := Lib.hid (RW.out.past b7)
      have KX := Lib.hid (KX.out.past b7)
      have BN := Lib.hid (BN.out.trans (b7.mono BN.out.size))
      refine Hb.back c7 (Nat.le_refl _) ?_
      refine Hb.call (f := 20) (args := #[.slice A7 (L.length - i) cc7, .slice A8 (L.length - i) c8]) 27 64 rfl ?_ (run_callf Try.func20 (by kernel_rfl) (by kernel_rfl) (by simp only [List.map_toArray, List.map_cons, List.map_nil]; rfl))
      refine (EqAll_c _ A7 A8 cc7 (L.length - i) c8 (L.length - i) (L.drop i) (L.drop i) R7.out (R8.out.below2 BN.out)).mono ?_
      rw [PLog.eqL_self]
      rintro x w8 ⟨rfl, b8⟩
      have c8' := b8.mono BN.out.size
      have LG := Lib.hid (LG.out.past b8)
      have RW := Lib.hid (RW.out.past b8)
      have KX := Lib.hid (KX.out.past b8)
      have BN := Lib.hid (BN.out.trans (b8.mono BN.out.size))
      refine Hb.back c8' (Nat.le_refl _) ?_
      refine Hb.take (v := .bool false) 28 65 rfl ?_ (fun w' hw' => by go_simp; first | done | rfl | omega | exact wrap_in (by omega) (by omega) | exact Int.tmod_eq_emod_of_nonneg (by omega) | exact Int.tdiv_eq_ediv_of_nonneg (by omega) | (simp; omega))
      refine Hb.take (v := .bool false) 29 66 rfl ?_ (fun _ _ => rfl)
      refine Hb.done ?_
-- END
      go_wp2_with fail
      go_roundw
      case rel => exact ⟨i + 1, by omega, by go_num, LG, Lib.hid RW.out.tight, Lib.hid (B4.out.drew.trans (BN.out.mono B4.out.size))⟩
      case measure => simp [intOf]; omega
    · obtain rfl : i = L.length := by omega
      go_wp2_with fail
      refine (At_out wr g F L LR.out 0 (Or.inl (by omega))).mono ?_
      rintro x w3 ⟨rfl, b3⟩
      have b4 := (Below.refl w3.heap.size w3).alloc (Nat.le_refl _) (.cells #[.int .i64 0, .int .i64 0, .int .i64 0, .int .i64 0, .int .i64 0, .int .i64 0, .string ⟨#[]⟩] 34)
      have L4 := Lib.hid ((LR.out.past b3).past b4)
      have B4 := Lib.hid (BR.out.trans ((b3.trans (b4.mono b3.size)).mono BR.out.size))
      clear b3 b4 LR RR BR
      simp only [ev, zeroE]
      go_wp2_with fail
      generalize (w3.alloc (.cells #[.int .i64 0, .int .i64 0, .int .i64 0, .int .i64 0, .int .i64 0, .int .i64 0, .string ⟨#[]⟩] 34)) = w4 at *
      refine (At_out w4 g F L L4.out ((L.length : Int) + 1) (Or.inr (by omega))).mono ?_
      rintro x w5 ⟨rfl, b5⟩
      have b6 := (Below.refl w5.heap.size w5).alloc (Nat.le_refl _) (.cells #[.int .i64 0, .int .i64 0, .int .i64 0, .int .i64 0, .int .i64 0, .int .i64 0, .string ⟨#[]⟩] 34)
      have L6 := Lib.hid ((L4.out.past b5).past b6)
      have B6 := Lib.hid (B4.out.trans ((b5.trans (b6.mono b5.size)).mono B4.out.size))
      clear b5 b6 L4 B4
      simp only [ev, zeroE]
      go_wp2_with fail
      generalize (w5.alloc (.cells #[.int .i64 0, .int .i64 0, .int .i64 0, .int .i64 0, .int .i64 0, .int .i64 0, .string ⟨#[]⟩] 34)) = w6 at *
      refine (From_out w6 g F L L6.out (-1) (Or.inl (by omega))).mono ?_
      rintro x w7 ⟨rfl, rfl⟩
      go_wp2_with fail
      refine (From_out w6 g F L L6.out ((L.length : Int) + 1) (Or.inr (by omega))).mono ?_
      rintro x w7 ⟨rfl, rfl⟩
      go_wp2_with fail
      go_ret
      exact ⟨rfl, B6.out⟩
end Go.Proofs.Ytnhdehbpcgeceaa
