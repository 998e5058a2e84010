/- Contracts of the document's Has, Add, Log (of lists of entries). -/
import Derived.Test.YtfolifhgmdglaaaGreatDoorSeg20
import Derived.Test.YtfolifhgmdglaaaGreatDoorSeg25
import Derived.Test.YtfolifhgmdglaaaGreatDoorSeg2
import Derived.Test.YtfolifhgmdglaaaGreatDoorSeg3
import Derived.Test.YtfolifhgmdglaaaGreatDoorSeg17
namespace Go.Proofs.YtfolifhgmdglaaaGreatDoor
open Go.RowKit

set_option maxHeartbeats 8000000 in
set_option maxRecDepth 100000 in
/-- The document's Add, where it can't be added. -/
theorem rAdd_no (w : World) (B : Nat) (A : Option Addr) (c n : Nat) (l : List Ent) (R : Rd w B A c 7 n (els l)) (e : Ent) (hc : PLog.can l e = false) :
    Calls Tryz.prog 55 #[.slice A n c, ev e] w fun x w' => x = .returned (.tuple #[.slice A n c, .bool false]) ∧ Below w.heap.size w w' := by
  have hcap := R.cap
  have hle := R.le
  have hn : n ≤ 9223372036854775807 := by unfold maxLen at hcap; omega
  have HL := Lib.hid R.elen
  have R1 := Lib.hid (show Rd (w.alloc (.cells #[.int .i64 e.fr, .int .i64 e.boot, .int .i64 e.seq, .int .i64 e.ord, .int .i64 e.lev, .int .i64 e.stamp, .string e.data] 86)).drew w.heap.size A c 7 n (els l) from R.tight.alloc (.cells #[.int .i64 e.fr, .int .i64 e.boot, .int .i64 e.seq, .int .i64 e.ord, .int .i64 e.lev, .int .i64 e.stamp, .string e.data] 86))
  have BT := Lib.hid (show Below w.heap.size w (w.alloc (.cells #[.int .i64 e.fr, .int .i64 e.boot, .int .i64 e.seq, .int .i64 e.ord, .int .i64 e.lev, .int .i64 e.stamp, .string e.data] 86)).drew from ((Below.refl w.heap.size w).alloc (Nat.le_refl _) (.cells #[.int .i64 e.fr, .int .i64 e.boot, .int .i64 e.seq, .int .i64 e.ord, .int .i64 e.lev, .int .i64 e.stamp, .string e.data] 86)).drew)
  have K := Lib.hid (show Blk (w.alloc (.cells #[.int .i64 e.fr, .int .i64 e.boot, .int .i64 e.seq, .int .i64 e.ord, .int .i64 e.lev, .int .i64 e.stamp, .string e.data] 86)).drew w.heap.size 86 (ecs e) from Blk.newEnt w 86 e)
  have LT := Lib.hid K.out.lt
  cases hm : PEnt.may e
  · have HM := Lib.hid hm
    clear hc hm R hcap hle
    show Calls _ _ #[_, .agg #[.int .i64 e.fr, .int .i64 e.boot, .int .i64 e.seq, .int .i64 e.ord, .int .i64 e.lev, .int .i64 e.stamp, .string e.data]] _ _
    go_enter Tryz.func55, Tryz.ntmps55
    go_wp2_with fail
    generalize (w.alloc (.cells #[.int .i64 e.fr, .int .i64 e.boot, .int .i64 e.seq, .int .i64 e.ord, .int .i64 e.lev, .int .i64 e.stamp, .string e.data] 86)) = w1 at *
-- REGION curfew/curfewref12.Add 1 radd_may 4
    refine Hb.begin ?_
    refine Hb.take (v := ev e) 0 6 rfl ?_ (fun w' hw' => by exact run_loadE ((K.out.below hw' LT.out).range) rfl)
    refine Hb.call (f := 97) (args := #[ev e]) 1 7 rfl ?_ (run_callf Tryz.func97 (by kernel_rfl) (by kernel_rfl) (by simp only [List.map_toArray, List.map_cons, List.map_nil]; rfl))
    refine (rMay_c _ e).mono ?_
    rw [HM.out]
    rintro x w2 ⟨rfl, b2⟩
    have K := Lib.hid (K.out.below b2 LT.out)
    have R1 := Lib.hid (R1.out.below (b2.mono (Nat.le_of_lt LT.out)))
    have BT := Lib.hid (BT.out.trans (b2.mono (Nat.le_of_lt LT.out)))
    refine Hb.back b2 (Nat.le_refl _) ?_
    refine Hb.take (v := .bool true) 2 8 rfl ?_ (fun w' hw' => by go_simp; first | done | rfl | omega | exact wrap_in (by omega) (by omega) | exact Int.tmod_eq_emod_of_nonneg (by omega) | exact Int.tdiv_eq_ediv_of_nonneg (by omega) | (simp; omega))
    refine Hb.take (v := .bool true) 3 9 rfl ?_ (fun _ _ => rfl)
    refine Hb.pass 4 10 rfl ?_
    refine Hb.pass 5 11 rfl ?_
    refine Hb.pass 6 12 rfl ?_
    refine Hb.take (v := Value.bool true) 7 13 rfl ?_ (fun _ _ => rfl)
    refine Hb.take (v := Value.bool true) 8 14 rfl ?_ (fun _ _ => rfl)
    refine Hb.pass 9 15 rfl ?_
    refine Hb.pass 10 16 rfl ?_
    refine Hb.pass 11 17 rfl ?_
    refine Hb.take (v := Value.bool true) 12 18 rfl ?_ (fun _ _ => rfl)
    refine Hb.take (v := Value.bool true) 13 19 rfl ?_ (fun _ _ => rfl)
    refine Hb.pass 14 20 rfl ?_
    refine Hb.pass 15 21 rfl ?_
    refine Hb.pass 16 22 rfl ?_
    refine Hb.pass 17 23 rfl ?_
    refine Hb.pass 18 24 rfl ?_
    refine Hb.pass 19 25 rfl ?_
    refine Hb.pass 20 26 rfl ?_
    refine Hb.pass 21 27 rfl ?_
    refine Hb.pass 22 28 rfl ?_
    refine Hb.pass 23 29 rfl ?_
    refine Hb.pass 24 30 rfl ?_
    refine Hb.pass 25 31 rfl ?_
    refine Hb.pass 26 32 rfl ?_
    refine Hb.pass 27 33 rfl ?_
    refine Hb.pass 28 34 rfl ?_
    refine Hb.take (v := Value.bool true) 29 35 rfl ?_ (fun _ _ => rfl)
    refine Hb.done ?_
-- END
    go_wp2_with fail
    go_ret2
    exact ⟨rfl, BT.out⟩
  cases hh : PLog.has l e
  · by_cases hf : 60 ≤ n
    · have HM := Lib.hid hm
      have HH := Lib.hid hh
      have jf : (60 : Int) ≤ (n : Int) := by omega
      clear hc hm hh R hcap hle
      show Calls _ _ #[_, .agg #[.int .i64 e.fr, .int .i64 e.boot, .int .i64 e.seq, .int .i64 e.ord, .int .i64 e.lev, .int .i64 e.stamp, .string e.data]] _ _
      go_enter Tryz.func55, Tryz.ntmps55
      go_wp2_with fail
      generalize (w.alloc (.cells #[.int .i64 e.fr, .int .i64 e.boot, .int .i64 e.seq, .int .i64 e.ord, .int .i64 e.lev, .int .i64 e.stamp, .string e.data] 86)) = w1 at *
-- REGION curfew/curfewref12.Add 1 radd_full 6
      refine Hb.begin ?_
      refine Hb.take (v := ev e) 0 6 rfl ?_ (fun w' hw' => by exact run_loadE ((K.out.below hw' LT.out).range) rfl)
      refine Hb.call (f := 97) (args := #[ev e]) 1 7 rfl ?_ (run_callf Tryz.func97 (by kernel_rfl) (by kernel_rfl) (by simp only [List.map_toArray, List.map_cons, List.map_nil]; rfl))
      refine (rMay_c _ e).mono ?_
      rw [HM.out]
      rintro x w2 ⟨rfl, b2⟩
      have K := Lib.hid (K.out.below b2 LT.out)
      have R1 := Lib.hid (R1.out.below (b2.mono (Nat.le_of_lt LT.out)))
      have BT := Lib.hid (BT.out.trans (b2.mono (Nat.le_of_lt LT.out)))
      refine Hb.back b2 (Nat.le_refl _) ?_
      refine Hb.take (v := .bool false) 2 8 rfl ?_ (fun w' hw' => by go_simp; first | done | rfl | omega | exact wrap_in (by omega) (by omega) | exact Int.tmod_eq_emod_of_nonneg (by omega) | exact Int.tdiv_eq_ediv_of_nonneg (by omega) | (simp; omega))
      refine Hb.take (v := .bool false) 3 9 rfl ?_ (fun _ _ => rfl)
      refine Hb.take (v := .slice A n c) 4 10 rfl ?_ (fun _ _ => rfl)
      refine Hb.take (v := ev e) 5 11 rfl ?_ (fun w' hw' => by exact run_loadE ((K.out.below hw' LT.out).range) rfl)
      refine Hb.call (f := 98) (args := #[.slice A n c, ev e]) 6 12 rfl ?_ (run_callf Tryz.func98 (by kernel_rfl) (by kernel_rfl) (by simp only [List.map_toArray, List.map_cons, List.map_nil]; rfl))
      refine (rHas_c _ _ A c n l R1.out.tight e).mono ?_
      rw [HH.out]
      rintro x w3 ⟨rfl, b3⟩
      have b3 := b3.mono (show w1.drew.heap.size ≤ w2.heap.size from b2.size)
      have K := Lib.hid (K.out.below b3 LT.out)
      have R1 := Lib.hid (R1.out.below (b3.mono (Nat.le_of_lt LT.out)))
      have BT := Lib.hid (BT.out.trans (b3.mono (Nat.le_of_lt LT.out)))
      refine Hb.back b3 (Nat.le_refl _) ?_
      refine Hb.take (v := .bool false) 7 13 rfl ?_ (fun _ _ => rfl)
      refine Hb.take (v := .bool false) 8 14 rfl ?_ (fun _ _ => rfl)
      refine Hb.take (v := .slice A n c) 9 15 rfl ?_ (fun _ _ => rfl)
      refine Hb.take (v := .int .i64 (n : Int)) 10 16 rfl ?_ (fun w' hw' => by go_simp; first | done | rfl | omega | exact wrap_in (by omega) (by omega) | exact Int.tmod_eq_emod_of_nonneg (by omega) | exact Int.tdiv_eq_ediv_of_nonneg (by omega) | (simp; omega))
      refine Hb.take (v := .bool true) 11 17 rfl ?_ (fun w' hw' => by go_simp; first | done | rfl | omega | exact wrap_in (by omega) (by omega) | exact Int.tmod_eq_emod_of_nonneg (by omega) | exact Int.tdiv_eq_ediv_of_nonneg (by omega) | (simp; omega))
      refine Hb.take (v := .bool true) 12 18 rfl ?_ (fun _ _ => rfl)
      refine Hb.take (v := .bool true) 13 19 rfl ?_ (fun _ _ => rfl)
      refine Hb.pass 14 20 rfl ?_
      refine Hb.pass 15 21 rfl ?_
      refine Hb.pass 16 22 rfl ?_
      refine Hb.pass 17 23 rfl ?_
      refine Hb.pass 18 24 rfl ?_
      refine Hb.pass 19 25 rfl ?_
      refine Hb.pass 20 26 rfl ?_
      refine Hb.pass 21 27 rfl ?_
      refine Hb.pass 22 28 rfl ?_
      refine Hb.pass 23 29 rfl ?_
      refine Hb.pass 24 30 rfl ?_
      refine Hb.pass 25 31 rfl ?_
      refine Hb.pass 26 32 rfl ?_
      refine Hb.pass 27 33 rfl ?_
      refine Hb.pass 28 34 rfl ?_
      refine Hb.take (v := Value.bool true) 29 35 rfl ?_ (fun _ _ => rfl)
      refine Hb.done ?_
-- END
      go_wp2_with fail
      go_ret2
      exact ⟨rfl, BT.out⟩
    · have he : PLog.early l e = true := by
        have h60 : l.length < 60 := by rw [HL.out]; omega
        have := hc
        unfold PLog.can at this
        rw [hm, hh, decide_eq_true h60] at this
        simpa using this
      obtain ⟨i, y, hy, hil, hst⟩ : ∃ i y, l[i]? = some y ∧ n = i + 1 ∧ e.stamp < y.stamp := by
        unfold PLog.early at he
        rw [List.getLast?_eq_getElem?] at he
        cases hq : l[l.length - 1]? with
        | none => rw [hq] at he; cases he
        | some y =>
          rw [hq] at he
          have := (List.getElem?_eq_some_iff.1 hq).1
          exact ⟨l.length - 1, y, hq, by have := HL.out; omega, of_decide_eq_true he⟩
      obtain ⟨b, o, y', hA, hb, hy', -, -⟩ := R.tight.entR (i := i) (by omega)
      have HB := Lib.hid (show b < (w.alloc (.cells #[.int .i64 e.fr, .int .i64 e.boot, .int .i64 e.seq, .int .i64 e.ord, .int .i64 e.lev, .int .i64 e.stamp, .string e.data] 86)).drew.heap.size from Nat.lt_of_lt_of_le hb BT.out.size)
      have HY := Lib.hid hy
      have HM := Lib.hid hm
      have HH := Lib.hid hh
      subst hA
      have jf : ¬ (60 : Int) ≤ (n : Int) := by omega
      have jp : (0 : Int) < (n : Int) := by omega
      have ji : ((n : Int) - 1) = (i : Int) := by omega
      clear hc hm hh hf he hb hy hy' R hcap hle hil
      show Calls _ _ #[_, .agg #[.int .i64 e.fr, .int .i64 e.boot, .int .i64 e.seq, .int .i64 e.ord, .int .i64 e.lev, .int .i64 e.stamp, .string e.data]] _ _
      go_enter Tryz.func55, Tryz.ntmps55
      go_wp2_with fail
      generalize (w.alloc (.cells #[.int .i64 e.fr, .int .i64 e.boot, .int .i64 e.seq, .int .i64 e.ord, .int .i64 e.lev, .int .i64 e.stamp, .string e.data] 86)) = w1 at *
-- REGION curfew/curfewref12.Add 1 radd_early 6
      refine Hb.begin ?_
      refine Hb.take (v := ev e) 0 6 rfl ?_ (fun w' hw' => by exact run_loadE ((K.out.below hw' LT.out).range) rfl)
      refine Hb.call (f := 97) (args := #[ev e]) 1 7 rfl ?_ (run_callf Tryz.func97 (by kernel_rfl) (by kernel_rfl) (by simp only [List.map_toArray, List.map_cons, List.map_nil]; rfl))
      refine (rMay_c _ e).mono ?_
      rw [HM.out]
      rintro x w2 ⟨rfl, b2⟩
      have K := Lib.hid (K.out.below b2 LT.out)
      have R1 := Lib.hid (R1.out.below (b2.mono (Nat.le_of_lt LT.out)))
      have BT := Lib.hid (BT.out.trans (b2.mono (Nat.le_of_lt LT.out)))
      refine Hb.back b2 (Nat.le_refl _) ?_
      refine Hb.take (v := .bool false) 2 8 rfl ?_ (fun w' hw' => by go_simp; first | done | rfl | omega | exact wrap_in (by omega) (by omega) | exact Int.tmod_eq_emod_of_nonneg (by omega) | exact Int.tdiv_eq_ediv_of_nonneg (by omega) | (simp; omega))
      refine Hb.take (v := .bool false) 3 9 rfl ?_ (fun _ _ => rfl)
      refine Hb.take (v := .slice (some ⟨b, o, none⟩) n c) 4 10 rfl ?_ (fun _ _ => rfl)
      refine Hb.take (v := ev e) 5 11 rfl ?_ (fun w' hw' => by exact run_loadE ((K.out.below hw' LT.out).range) rfl)
      refine Hb.call (f := 98) (args := #[.slice (some ⟨b, o, none⟩) n c, ev e]) 6 12 rfl ?_ (run_callf Tryz.func98 (by kernel_rfl) (by kernel_rfl) (by simp only [List.map_toArray, List.map_cons, List.map_nil]; rfl))
      refine (rHas_c _ _ (some ⟨b, o, none⟩) c n l R1.out.tight e).mono ?_
      rw [HH.out]
      rintro x w3 ⟨rfl, b3⟩
      have b3 := b3.mono (show w1.drew.heap.size ≤ w2.heap.size from b2.size)
      have K := Lib.hid (K.out.below b3 LT.out)
      have R1 := Lib.hid (R1.out.below (b3.mono (Nat.le_of_lt LT.out)))
      have BT := Lib.hid (BT.out.trans (b3.mono (Nat.le_of_lt LT.out)))
      refine Hb.back b3 (Nat.le_refl _) ?_
      refine Hb.take (v := .bool false) 7 13 rfl ?_ (fun _ _ => rfl)
      refine Hb.take (v := .bool false) 8 14 rfl ?_ (fun _ _ => rfl)
      refine Hb.take (v := .slice (some ⟨b, o, none⟩) n c) 9 15 rfl ?_ (fun _ _ => rfl)
      refine Hb.take (v := .int .i64 (n : Int)) 10 16 rfl ?_ (fun w' hw' => by go_simp; first | done | rfl | omega | exact wrap_in (by omega) (by omega) | exact Int.tmod_eq_emod_of_nonneg (by omega) | exact Int.tdiv_eq_ediv_of_nonneg (by omega) | (simp; omega))
      refine Hb.take (v := .bool false) 11 17 rfl ?_ (fun w' hw' => by go_simp; first | done | rfl | omega | exact wrap_in (by omega) (by omega) | exact Int.tmod_eq_emod_of_nonneg (by omega) | exact Int.tdiv_eq_ediv_of_nonneg (by omega) | (simp; omega))
      refine Hb.take (v := .bool false) 12 18 rfl ?_ (fun _ _ => rfl)
      refine Hb.take (v := .bool false) 13 19 rfl ?_ (fun _ _ => rfl)
      refine Hb.take (v := .slice (some ⟨b, o, none⟩) n c) 14 20 rfl ?_ (fun _ _ => rfl)
      refine Hb.take (v := .int .i64 (n : Int)) 15 21 rfl ?_ (fun w' hw' => by go_simp; first | done | rfl | omega | exact wrap_in (by omega) (by omega) | exact Int.tmod_eq_emod_of_nonneg (by omega) | exact Int.tdiv_eq_ediv_of_nonneg (by omega) | (simp; omega))
      refine Hb.take (v := .bool true) 16 22 rfl ?_ (fun w' hw' => by go_simp; first | done | rfl | omega | exact wrap_in (by omega) (by omega) | exact Int.tmod_eq_emod_of_nonneg (by omega) | exact Int.tdiv_eq_ediv_of_nonneg (by omega) | (simp; omega))
      refine Hb.take (v := .bool true) 17 23 rfl ?_ (fun _ _ => rfl)
      refine Hb.take (v := .pointer (some ⟨w.heap.size, 5, none⟩)) 18 24 rfl ?_ (fun w' hw' => by go_simp; first | done | rfl | omega | exact wrap_in (by omega) (by omega) | exact Int.tmod_eq_emod_of_nonneg (by omega) | exact Int.tdiv_eq_ediv_of_nonneg (by omega) | (simp; omega))
      refine Hb.take (v := .int .i64 e.stamp) 19 25 rfl ?_ (fun w' hw' => by exact run_loadI ((hw'.cell (p := ⟨w.heap.size, 5, none⟩) LT.out).trans (K.out.cell (i := 5) rfl)) rfl)
      refine Hb.take (v := .slice (some ⟨b, o, none⟩) n c) 20 26 rfl ?_ (fun _ _ => rfl)
      refine Hb.take (v := .slice (some ⟨b, o, none⟩) n c) 21 27 rfl ?_ (fun _ _ => rfl)
      refine Hb.take (v := .int .i64 (n : Int)) 22 28 rfl ?_ (fun w' hw' => by go_simp; first | done | rfl | omega | exact wrap_in (by omega) (by omega) | exact Int.tmod_eq_emod_of_nonneg (by omega) | exact Int.tdiv_eq_ediv_of_nonneg (by omega) | (simp; omega))
      refine Hb.take (v := .int .i64 (i : Int)) 23 29 rfl ?_ (fun w' hw' => by go_simp; first | done | rfl | omega | exact wrap_in (by omega) (by omega) | exact Int.tmod_eq_emod_of_nonneg (by omega) | exact Int.tdiv_eq_ediv_of_nonneg (by omega) | (simp; omega))
      refine Hb.take (v := .pointer (some ⟨b, o + i * 7, none⟩)) 24 30 rfl ?_ (fun w' hw' => by go_simp; first | done | rfl | omega | exact wrap_in (by omega) (by omega) | exact Int.tmod_eq_emod_of_nonneg (by omega) | exact Int.tdiv_eq_ediv_of_nonneg (by omega) | (simp; omega))
      refine Hb.take (v := .pointer (some ⟨b, o + i * 7 + 5, none⟩)) 25 31 rfl ?_ (fun w' hw' => by go_simp; first | done | rfl | omega | exact wrap_in (by omega) (by omega) | exact Int.tmod_eq_emod_of_nonneg (by omega) | exact Int.tdiv_eq_ediv_of_nonneg (by omega) | (simp; omega))
      refine Hb.take (v := .int .i64 y.stamp) 26 32 rfl ?_ (fun w' hw' => by exact run_loadI ((hw'.cell (p := ⟨b, o + i * 7 + 5, none⟩) HB.out).trans (range_stamp (R1.out.rangeOf rfl HY.out))) rfl)
      refine Hb.take (v := .bool true) 27 33 rfl ?_ (fun w' hw' => by go_simp; first | done | rfl | omega | exact wrap_in (by omega) (by omega) | exact Int.tmod_eq_emod_of_nonneg (by omega) | exact Int.tdiv_eq_ediv_of_nonneg (by omega) | (simp; omega))
      refine Hb.take (v := .bool true) 28 34 rfl ?_ (fun _ _ => rfl)
      refine Hb.take (v := .bool true) 29 35 rfl ?_ (fun _ _ => rfl)
      refine Hb.done ?_
-- END
      go_wp2_with fail
      go_ret2
      exact ⟨rfl, BT.out⟩
  · have HM := Lib.hid hm
    have HH := Lib.hid hh
    clear hc hm hh R hcap hle
    show Calls _ _ #[_, .agg #[.int .i64 e.fr, .int .i64 e.boot, .int .i64 e.seq, .int .i64 e.ord, .int .i64 e.lev, .int .i64 e.stamp, .string e.data]] _ _
    go_enter Tryz.func55, Tryz.ntmps55
    go_wp2_with fail
    generalize (w.alloc (.cells #[.int .i64 e.fr, .int .i64 e.boot, .int .i64 e.seq, .int .i64 e.ord, .int .i64 e.lev, .int .i64 e.stamp, .string e.data] 86)) = w1 at *
-- REGION curfew/curfewref12.Add 1 radd_has 4
    refine Hb.begin ?_
    refine Hb.take (v := ev e) 0 6 rfl ?_ (fun w' hw' => by exact run_loadE ((K.out.below hw' LT.out).range) rfl)
    refine Hb.call (f := 97) (args := #[ev e]) 1 7 rfl ?_ (run_callf Tryz.func97 (by kernel_rfl) (by kernel_rfl) (by simp only [List.map_toArray, List.map_cons, List.map_nil]; rfl))
    refine (rMay_c _ e).mono ?_
    rw [HM.out]
    rintro x w2 ⟨rfl, b2⟩
    have K := Lib.hid (K.out.below b2 LT.out)
    have R1 := Lib.hid (R1.out.below (b2.mono (Nat.le_of_lt LT.out)))
    have BT := Lib.hid (BT.out.trans (b2.mono (Nat.le_of_lt LT.out)))
    refine Hb.back b2 (Nat.le_refl _) ?_
    refine Hb.take (v := .bool false) 2 8 rfl ?_ (fun w' hw' => by go_simp; first | done | rfl | omega | exact wrap_in (by omega) (by omega) | exact Int.tmod_eq_emod_of_nonneg (by omega) | exact Int.tdiv_eq_ediv_of_nonneg (by omega) | (simp; omega))
    refine Hb.take (v := .bool false) 3 9 rfl ?_ (fun _ _ => rfl)
    refine Hb.take (v := .slice A n c) 4 10 rfl ?_ (fun _ _ => rfl)
    refine Hb.take (v := ev e) 5 11 rfl ?_ (fun w' hw' => by exact run_loadE ((K.out.below hw' LT.out).range) rfl)
    refine Hb.call (f := 98) (args := #[.slice A n c, ev e]) 6 12 rfl ?_ (run_callf Tryz.func98 (by kernel_rfl) (by kernel_rfl) (by simp only [List.map_toArray, List.map_cons, List.map_nil]; rfl))
    refine (rHas_c _ _ A c n l R1.out.tight e).mono ?_
    rw [HH.out]
    rintro x w3 ⟨rfl, b3⟩
    have b3 := b3.mono (show w1.drew.heap.size ≤ w2.heap.size from b2.size)
    have K := Lib.hid (K.out.below b3 LT.out)
    have R1 := Lib.hid (R1.out.below (b3.mono (Nat.le_of_lt LT.out)))
    have BT := Lib.hid (BT.out.trans (b3.mono (Nat.le_of_lt LT.out)))
    refine Hb.back b3 (Nat.le_refl _) ?_
    refine Hb.take (v := .bool true) 7 13 rfl ?_ (fun _ _ => rfl)
    refine Hb.take (v := .bool true) 8 14 rfl ?_ (fun _ _ => rfl)
    refine Hb.pass 9 15 rfl ?_
    refine Hb.pass 10 16 rfl ?_
    refine Hb.pass 11 17 rfl ?_
    refine Hb.take (v := Value.bool true) 12 18 rfl ?_ (fun _ _ => rfl)
    refine Hb.take (v := Value.bool true) 13 19 rfl ?_ (fun _ _ => rfl)
    refine Hb.pass 14 20 rfl ?_
    refine Hb.pass 15 21 rfl ?_
    refine Hb.pass 16 22 rfl ?_
    refine Hb.pass 17 23 rfl ?_
    refine Hb.pass 18 24 rfl ?_
    refine Hb.pass 19 25 rfl ?_
    refine Hb.pass 20 26 rfl ?_
    refine Hb.pass 21 27 rfl ?_
    refine Hb.pass 22 28 rfl ?_
    refine Hb.pass 23 29 rfl ?_
    refine Hb.pass 24 30 rfl ?_
    refine Hb.pass 25 31 rfl ?_
    refine Hb.pass 26 32 rfl ?_
    refine Hb.pass 27 33 rfl ?_
    refine Hb.pass 28 34 rfl ?_
    refine Hb.take (v := Value.bool true) 29 35 rfl ?_ (fun _ _ => rfl)
    refine Hb.done ?_
-- END
    go_wp2_with fail
    go_ret2
    exact ⟨rfl, BT.out⟩

set_option maxHeartbeats 8000000 in
set_option maxRecDepth 100000 in
/-- The document's Add, where it can. -/
theorem rAdd_yes (w : World) (B : Nat) (A : Option Addr) (c n : Nat) (l : List Ent) (R : Rd w B A c 7 n (els l)) (e : Ent) (hc : PLog.can l e = true) :
    Calls Tryz.prog 55 #[.slice A n c, ev e] w fun x w' => ∃ A' c', x = .returned (.tuple #[.slice A' (n + 1) c', .bool true]) ∧ w'.ownsRow w.heap.size 86 7 (.slice A' (n + 1) c') (n + 1) (els (l ++ [e])) ∧ Below w.heap.size w w' := by
  have HL := Lib.hid R.elen
  have R1 := Lib.hid (show Rd (w.alloc (.cells #[.int .i64 e.fr, .int .i64 e.boot, .int .i64 e.seq, .int .i64 e.ord, .int .i64 e.lev, .int .i64 e.stamp, .string e.data] 86)).drew w.heap.size A c 7 n (els l) from R.tight.alloc (.cells #[.int .i64 e.fr, .int .i64 e.boot, .int .i64 e.seq, .int .i64 e.ord, .int .i64 e.lev, .int .i64 e.stamp, .string e.data] 86))
  have BT := Lib.hid (show Below w.heap.size w (w.alloc (.cells #[.int .i64 e.fr, .int .i64 e.boot, .int .i64 e.seq, .int .i64 e.ord, .int .i64 e.lev, .int .i64 e.stamp, .string e.data] 86)).drew from ((Below.refl w.heap.size w).alloc (Nat.le_refl _) (.cells #[.int .i64 e.fr, .int .i64 e.boot, .int .i64 e.seq, .int .i64 e.ord, .int .i64 e.lev, .int .i64 e.stamp, .string e.data] 86)).drew)
  have K := Lib.hid (show Blk (w.alloc (.cells #[.int .i64 e.fr, .int .i64 e.boot, .int .i64 e.seq, .int .i64 e.ord, .int .i64 e.lev, .int .i64 e.stamp, .string e.data] 86)).drew w.heap.size 86 (ecs e) from Blk.newEnt w 86 e)
  have LT := Lib.hid K.out.lt
  have hq := hc
  simp only [PLog.can, Bool.and_eq_true, Bool.not_eq_true', decide_eq_true_eq] at hq
  obtain ⟨⟨⟨hm, hf⟩, he⟩, hh⟩ := hq
  rw [HL.out] at hf
  have HM := Lib.hid hm
  have HH := Lib.hid hh
  have jf : ¬ (60 : Int) ≤ (n : Int) := by omega
  have hn60 : n < 60 := hf
  by_cases hz : n = 0
  · have jp : ¬ (0 : Int) < (n : Int) := by omega
    clear hc hm hh he R hz hf
    show Calls _ _ #[_, .agg #[.int .i64 e.fr, .int .i64 e.boot, .int .i64 e.seq, .int .i64 e.ord, .int .i64 e.lev, .int .i64 e.stamp, .string e.data]] _ _
    go_enter Tryz.func55, Tryz.ntmps55
    go_wp2_with fail
    generalize (w.alloc (.cells #[.int .i64 e.fr, .int .i64 e.boot, .int .i64 e.seq, .int .i64 e.ord, .int .i64 e.lev, .int .i64 e.stamp, .string e.data] 86)) = w1 at *
-- REGION curfew/curfewref12.Add 1 radd_zero 4
    refine Hb.begin ?_
    refine Hb.take (v := ev e) 0 6 rfl ?_ (fun w' hw' => by exact run_loadE ((K.out.below hw' LT.out).range) rfl)
    refine Hb.call (f := 97) (args := #[ev e]) 1 7 rfl ?_ (run_callf Tryz.func97 (by kernel_rfl) (by kernel_rfl) (by simp only [List.map_toArray, List.map_cons, List.map_nil]; rfl))
    refine (rMay_c _ e).mono ?_
    rw [HM.out]
    rintro x w2 ⟨rfl, b2⟩
    have K := Lib.hid (K.out.below b2 LT.out)
    have R1 := Lib.hid (R1.out.below (b2.mono (Nat.le_of_lt LT.out)))
    have BT := Lib.hid (BT.out.trans (b2.mono (Nat.le_of_lt LT.out)))
    refine Hb.back b2 (Nat.le_refl _) ?_
    refine Hb.take (v := .bool false) 2 8 rfl ?_ (fun w' hw' => by go_simp; first | done | rfl | omega | exact wrap_in (by omega) (by omega) | exact Int.tmod_eq_emod_of_nonneg (by omega) | exact Int.tdiv_eq_ediv_of_nonneg (by omega) | (simp; omega))
    refine Hb.take (v := .bool false) 3 9 rfl ?_ (fun _ _ => rfl)
    refine Hb.take (v := .slice A n c) 4 10 rfl ?_ (fun _ _ => rfl)
    refine Hb.take (v := ev e) 5 11 rfl ?_ (fun w' hw' => by exact run_loadE ((K.out.below hw' LT.out).range) rfl)
    refine Hb.call (f := 98) (args := #[.slice A n c, ev e]) 6 12 rfl ?_ (run_callf Tryz.func98 (by kernel_rfl) (by kernel_rfl) (by simp only [List.map_toArray, List.map_cons, List.map_nil]; rfl))
    refine (rHas_c _ _ A c n l R1.out.tight e).mono ?_
    rw [HH.out]
    rintro x w3 ⟨rfl, b3⟩
    have b3 := b3.mono (show w1.drew.heap.size ≤ w2.heap.size from b2.size)
    have K := Lib.hid (K.out.below b3 LT.out)
    have R1 := Lib.hid (R1.out.below (b3.mono (Nat.le_of_lt LT.out)))
    have BT := Lib.hid (BT.out.trans (b3.mono (Nat.le_of_lt LT.out)))
    refine Hb.back b3 (Nat.le_refl _) ?_
    refine Hb.take (v := .bool false) 7 13 rfl ?_ (fun _ _ => rfl)
    refine Hb.take (v := .bool false) 8 14 rfl ?_ (fun _ _ => rfl)
    refine Hb.take (v := .slice A n c) 9 15 rfl ?_ (fun _ _ => rfl)
    refine Hb.take (v := .int .i64 (n : Int)) 10 16 rfl ?_ (fun w' hw' => by go_simp; first | done | rfl | omega | exact wrap_in (by omega) (by omega) | exact Int.tmod_eq_emod_of_nonneg (by omega) | exact Int.tdiv_eq_ediv_of_nonneg (by omega) | (simp; omega))
    refine Hb.take (v := .bool false) 11 17 rfl ?_ (fun w' hw' => by go_simp; first | done | rfl | omega | exact wrap_in (by omega) (by omega) | exact Int.tmod_eq_emod_of_nonneg (by omega) | exact Int.tdiv_eq_ediv_of_nonneg (by omega) | (simp; omega))
    refine Hb.take (v := .bool false) 12 18 rfl ?_ (fun _ _ => rfl)
    refine Hb.take (v := .bool false) 13 19 rfl ?_ (fun _ _ => rfl)
    refine Hb.take (v := .slice A n c) 14 20 rfl ?_ (fun _ _ => rfl)
    refine Hb.take (v := .int .i64 (n : Int)) 15 21 rfl ?_ (fun w' hw' => by go_simp; first | done | rfl | omega | exact wrap_in (by omega) (by omega) | exact Int.tmod_eq_emod_of_nonneg (by omega) | exact Int.tdiv_eq_ediv_of_nonneg (by omega) | (simp; omega))
    refine Hb.take (v := .bool false) 16 22 rfl ?_ (fun w' hw' => by go_simp; first | done | rfl | omega | exact wrap_in (by omega) (by omega) | exact Int.tmod_eq_emod_of_nonneg (by omega) | exact Int.tdiv_eq_ediv_of_nonneg (by omega) | (simp; omega))
    refine Hb.take (v := .bool false) 17 23 rfl ?_ (fun _ _ => rfl)
    refine Hb.pass 18 24 rfl ?_
    refine Hb.pass 19 25 rfl ?_
    refine Hb.pass 20 26 rfl ?_
    refine Hb.pass 21 27 rfl ?_
    refine Hb.pass 22 28 rfl ?_
    refine Hb.pass 23 29 rfl ?_
    refine Hb.pass 24 30 rfl ?_
    refine Hb.pass 25 31 rfl ?_
    refine Hb.pass 26 32 rfl ?_
    refine Hb.pass 27 33 rfl ?_
    refine Hb.take (v := Value.bool false) 28 34 rfl ?_ (fun _ _ => rfl)
    refine Hb.take (v := Value.bool false) 29 35 rfl ?_ (fun _ _ => rfl)
    refine Hb.done ?_
-- END
    go_wp2_with fail
    generalize w3 = wq at *
    have RQ := Lib.hid (show Rd wq.drew w1.drew.heap.size A c 7 n (els l) from R1.out.more (Nat.le_of_lt LT.out))
    have BQ := Lib.hid (show Below w.heap.size w wq.drew from BT.out.drew)
    replace K := Lib.hid (show Blk wq.drew w.heap.size 86 (ecs e) from K.out)
    clear R1 BT b2 b3
    refine Hb.begin ?_
    refine Hb.take (v := .slice A n c) 0 37 rfl ?_ (fun _ _ => rfl)
    refine Hb.take (v := ev e) 2 39 rfl ?_ (fun w' hw' => run_loadE ((K.out.below hw' K.out.lt).range) rfl)
    refine Hb.two 1 3 ?_ ?_
    · refine Hb.pick 1 (some 38) rfl ?_
      refine wpList_app rfl (.const (.slice none 0 0)) (.tmp 37) 39 rfl wq.drew.heap.size 86 _ 7 64 Tryz.underlying39 ent_info rfl (by omega) _ 0 [] rfl (World.ownsRow_nil _ _ _ _) _ A c n (els l) rfl RQ.out (els_one _) ?d1 ?d2 (Nat.le_refl _) ?_
      case d1 => unfold maxLen; omega
      case d2 => omega
      intro A4 c4 w4 o4 g4 b4
      rw [Nat.zero_add] at o4 ⊢
      rw [List.nil_append] at o4
      have O4 := Lib.hid o4
      have B4 := Lib.hid b4
      clear o4 g4 b4
      refine Hb.next B4.out (Nat.le_refl _) ?_
      refine Hb.only 3 (some 40) rfl ?_
      refine wpList_buildE rfl (.tmp 39) rfl e rfl ?_
      have b5 := (Below.refl w4.heap.size w4).alloc (Nat.le_refl _) (.cells (ecs e).toArray 86)
      have N5 := Lib.hid (Rd.new w4 (ecs e).toArray 86 7 1 rfl (by unfold maxLen; omega))
      have O5 := Lib.hid (own_below O4.out b5)
      have B5 := Lib.hid (b5.mono B4.out.size)
      have BA5 := Lib.hid (B4.out.trans B5.out)
      clear b5 O4
      refine Hb.next B5.out (Nat.le_refl _) ?_ (by simp only [Act.put, List.setIfInBounds_toArray, List.set_cons_succ, List.set_cons_zero]; rfl)
      refine Hb.only 4 (some 41) rfl ?_
      refine wpList_app rfl (.tmp 38) (.tmp 40) 39 rfl wq.drew.heap.size 86 _ 7 64 Tryz.underlying39 ent_info rfl (by omega) _ n (els l) rfl O5.out _ _ 1 1 (ecs e) rfl N5.out (ecs_one e) ?e1 ?e2 BA5.out.size ?_
      case e1 => unfold maxLen; omega
      case e2 => omega
      intro A6 c6 w6 o6 g6 b6
      refine Hb.next b6 (Nat.le_refl _) ?_
      refine Hb.take (v := .slice A6 (n + 1) c6) 5 4 rfl ?_ (fun _ _ => rfl)
      refine Hb.take (v := .bool true) 6 5 rfl ?_ (fun _ _ => rfl)
      refine Hb.done ?_
      have e6 : els l ++ ecs e = els (l ++ [e]) := by rw [els_append]; simp [els]
      rw [e6] at o6
      have O6 := Lib.hid (own_base o6 (show w.heap.size ≤ wq.drew.heap.size from BQ.out.size))
      have B6 := Lib.hid (BQ.out.trans ((BA5.out.trans b6).mono (show w.heap.size ≤ wq.drew.heap.size from BQ.out.size)))
      clear o6 b6 g6
      go_wp2_with fail
      go_ret2
      exact ⟨A6, c6, rfl, O6.out, B6.out⟩
    · refine Hb.pick 3 (some 40) rfl ?_
      refine wpList_buildE rfl (.tmp 39) rfl e rfl ?_
      have b4 := (Below.refl wq.drew.heap.size wq.drew).alloc (Nat.le_refl _) (.cells (ecs e).toArray 86)
      have N4 := Lib.hid (Rd.new wq.drew (ecs e).toArray 86 7 1 rfl (by unfold maxLen; omega))
      have R4 := Lib.hid (RQ.out.past b4)
      have B4 := Lib.hid b4
      clear b4
      refine Hb.next B4.out (Nat.le_refl _) ?_ (by simp only [Act.put, List.setIfInBounds_toArray, List.set_cons_succ, List.set_cons_zero]; rfl)
      generalize wq.drew.alloc (.cells (ecs e).toArray 86) = w4 at *
      refine Hb.only 1 (some 38) rfl ?_
      refine wpList_app rfl (.const (.slice none 0 0)) (.tmp 37) 39 rfl w4.heap.size 86 _ 7 64 Tryz.underlying39 ent_info rfl (by omega) _ 0 [] rfl (World.ownsRow_nil _ _ _ _) _ A c n (els l) rfl R4.out (els_one _) ?d1 ?d2 (Nat.le_refl _) ?_
      case d1 => unfold maxLen; omega
      case d2 => omega
      intro A5 c5 w5 o5 g5 b5
      rw [Nat.zero_add] at o5 ⊢
      rw [List.nil_append] at o5
      have O5 := Lib.hid (own_base o5 B4.out.size)
      have N5 := Lib.hid (N4.out.tight.past b5)
      have B5 := Lib.hid (b5.mono B4.out.size)
      have BA5 := Lib.hid (B4.out.trans B5.out)
      clear o5 g5 b5 N4
      refine Hb.next B5.out (Nat.le_refl _) ?_ (by simp only [Act.put, List.setIfInBounds_toArray, List.set_cons_succ, List.set_cons_zero]; rfl)
      refine Hb.only 4 (some 41) rfl ?_
      refine wpList_app rfl (.tmp 38) (.tmp 40) 39 rfl wq.drew.heap.size 86 _ 7 64 Tryz.underlying39 ent_info rfl (by omega) _ n (els l) rfl O5.out _ _ 1 1 (ecs e) rfl N5.out (ecs_one e) ?e1 ?e2 BA5.out.size ?_
      case e1 => unfold maxLen; omega
      case e2 => omega
      intro A6 c6 w6 o6 g6 b6
      refine Hb.next b6 (Nat.le_refl _) ?_
      refine Hb.take (v := .slice A6 (n + 1) c6) 5 4 rfl ?_ (fun _ _ => rfl)
      refine Hb.take (v := .bool true) 6 5 rfl ?_ (fun _ _ => rfl)
      refine Hb.done ?_
      have e6 : els l ++ ecs e = els (l ++ [e]) := by rw [els_append]; simp [els]
      rw [e6] at o6
      have O6 := Lib.hid (own_base o6 (show w.heap.size ≤ wq.drew.heap.size from BQ.out.size))
      have B6 := Lib.hid (BQ.out.trans ((BA5.out.trans b6).mono (show w.heap.size ≤ wq.drew.heap.size from BQ.out.size)))
      clear o6 b6 g6
      go_wp2_with fail
      go_ret2
      exact ⟨A6, c6, rfl, O6.out, B6.out⟩
  · obtain ⟨i, y, hy, hil, hst⟩ : ∃ i y, l[i]? = some y ∧ n = i + 1 ∧ ¬ e.stamp < y.stamp := by
      unfold PLog.early at he
      rw [List.getLast?_eq_getElem?] at he
      have hlt : l.length - 1 < l.length := by have := HL.out; omega
      rw [List.getElem?_eq_getElem hlt] at he
      exact ⟨l.length - 1, l[l.length - 1], List.getElem?_eq_getElem hlt, by have := HL.out; omega, of_decide_eq_false he⟩
    obtain ⟨b, o, y', hA, hb, hy', -, -⟩ := R.tight.entR (i := i) (by omega)
    have HB := Lib.hid (show b < (w.alloc (.cells #[.int .i64 e.fr, .int .i64 e.boot, .int .i64 e.seq, .int .i64 e.ord, .int .i64 e.lev, .int .i64 e.stamp, .string e.data] 86)).drew.heap.size from Nat.lt_of_lt_of_le hb BT.out.size)
    have HY := Lib.hid hy
    subst hA
    have jp : (0 : Int) < (n : Int) := by omega
    have ji : ((n : Int) - 1) = (i : Int) := by omega
    clear hc hm hh he hz hb hy hy' R hil hf
    show Calls _ _ #[_, .agg #[.int .i64 e.fr, .int .i64 e.boot, .int .i64 e.seq, .int .i64 e.ord, .int .i64 e.lev, .int .i64 e.stamp, .string e.data]] _ _
    go_enter Tryz.func55, Tryz.ntmps55
    go_wp2_with fail
    generalize (w.alloc (.cells #[.int .i64 e.fr, .int .i64 e.boot, .int .i64 e.seq, .int .i64 e.ord, .int .i64 e.lev, .int .i64 e.stamp, .string e.data] 86)) = w1 at *
-- REGION curfew/curfewref12.Add 1 radd_ok 4
    refine Hb.begin ?_
    refine Hb.take (v := ev e) 0 6 rfl ?_ (fun w' hw' => by exact run_loadE ((K.out.below hw' LT.out).range) rfl)
    refine Hb.call (f := 97) (args := #[ev e]) 1 7 rfl ?_ (run_callf Tryz.func97 (by kernel_rfl) (by kernel_rfl) (by simp only [List.map_toArray, List.map_cons, List.map_nil]; rfl))
    refine (rMay_c _ e).mono ?_
    rw [HM.out]
    rintro x w2 ⟨rfl, b2⟩
    have K := Lib.hid (K.out.below b2 LT.out)
    have R1 := Lib.hid (R1.out.below (b2.mono (Nat.le_of_lt LT.out)))
    have BT := Lib.hid (BT.out.trans (b2.mono (Nat.le_of_lt LT.out)))
    refine Hb.back b2 (Nat.le_refl _) ?_
    refine Hb.take (v := .bool false) 2 8 rfl ?_ (fun w' hw' => by go_simp; first | done | rfl | omega | exact wrap_in (by omega) (by omega) | exact Int.tmod_eq_emod_of_nonneg (by omega) | exact Int.tdiv_eq_ediv_of_nonneg (by omega) | (simp; omega))
    refine Hb.take (v := .bool false) 3 9 rfl ?_ (fun _ _ => rfl)
    refine Hb.take (v := .slice (some ⟨b, o, none⟩) n c) 4 10 rfl ?_ (fun _ _ => rfl)
    refine Hb.take (v := ev e) 5 11 rfl ?_ (fun w' hw' => by exact run_loadE ((K.out.below hw' LT.out).range) rfl)
    refine Hb.call (f := 98) (args := #[.slice (some ⟨b, o, none⟩) n c, ev e]) 6 12 rfl ?_ (run_callf Tryz.func98 (by kernel_rfl) (by kernel_rfl) (by simp only [List.map_toArray, List.map_cons, List.map_nil]; rfl))
    refine (rHas_c _ _ (some ⟨b, o, none⟩) c n l R1.out.tight e).mono ?_
    rw [HH.out]
    rintro x w3 ⟨rfl, b3⟩
    have b3 := b3.mono (show w1.drew.heap.size ≤ w2.heap.size from b2.size)
    have K := Lib.hid (K.out.below b3 LT.out)
    have R1 := Lib.hid (R1.out.below (b3.mono (Nat.le_of_lt LT.out)))
    have BT := Lib.hid (BT.out.trans (b3.mono (Nat.le_of_lt LT.out)))
    refine Hb.back b3 (Nat.le_refl _) ?_
    refine Hb.take (v := .bool false) 7 13 rfl ?_ (fun _ _ => rfl)
    refine Hb.take (v := .bool false) 8 14 rfl ?_ (fun _ _ => rfl)
    refine Hb.take (v := .slice (some ⟨b, o, none⟩) n c) 9 15 rfl ?_ (fun _ _ => rfl)
    refine Hb.take (v := .int .i64 (n : Int)) 10 16 rfl ?_ (fun w' hw' => by go_simp; first | done | rfl | omega | exact wrap_in (by omega) (by omega) | exact Int.tmod_eq_emod_of_nonneg (by omega) | exact Int.tdiv_eq_ediv_of_nonneg (by omega) | (simp; omega))
    refine Hb.take (v := .bool false) 11 17 rfl ?_ (fun w' hw' => by go_simp; first | done | rfl | omega | exact wrap_in (by omega) (by omega) | exact Int.tmod_eq_emod_of_nonneg (by omega) | exact Int.tdiv_eq_ediv_of_nonneg (by omega) | (simp; omega))
    refine Hb.take (v := .bool false) 12 18 rfl ?_ (fun _ _ => rfl)
    refine Hb.take (v := .bool false) 13 19 rfl ?_ (fun _ _ => rfl)
    refine Hb.take (v := .slice (some ⟨b, o, none⟩) n c) 14 20 rfl ?_ (fun _ _ => rfl)
    refine Hb.take (v := .int .i64 (n : Int)) 15 21 rfl ?_ (fun w' hw' => by go_simp; first | done | rfl | omega | exact wrap_in (by omega) (by omega) | exact Int.tmod_eq_emod_of_nonneg (by omega) | exact Int.tdiv_eq_ediv_of_nonneg (by omega) | (simp; omega))
    refine Hb.take (v := .bool true) 16 22 rfl ?_ (fun w' hw' => by go_simp; first | done | rfl | omega | exact wrap_in (by omega) (by omega) | exact Int.tmod_eq_emod_of_nonneg (by omega) | exact Int.tdiv_eq_ediv_of_nonneg (by omega) | (simp; omega))
    refine Hb.take (v := .bool true) 17 23 rfl ?_ (fun _ _ => rfl)
    refine Hb.take (v := .pointer (some ⟨w.heap.size, 5, none⟩)) 18 24 rfl ?_ (fun w' hw' => by go_simp; first | done | rfl | omega | exact wrap_in (by omega) (by omega) | exact Int.tmod_eq_emod_of_nonneg (by omega) | exact Int.tdiv_eq_ediv_of_nonneg (by omega) | (simp; omega))
    refine Hb.take (v := .int .i64 e.stamp) 19 25 rfl ?_ (fun w' hw' => by exact run_loadI ((hw'.cell (p := ⟨w.heap.size, 5, none⟩) LT.out).trans (K.out.cell (i := 5) rfl)) rfl)
    refine Hb.take (v := .slice (some ⟨b, o, none⟩) n c) 20 26 rfl ?_ (fun _ _ => rfl)
    refine Hb.take (v := .slice (some ⟨b, o, none⟩) n c) 21 27 rfl ?_ (fun _ _ => rfl)
    refine Hb.take (v := .int .i64 (n : Int)) 22 28 rfl ?_ (fun w' hw' => by go_simp; first | done | rfl | omega | exact wrap_in (by omega) (by omega) | exact Int.tmod_eq_emod_of_nonneg (by omega) | exact Int.tdiv_eq_ediv_of_nonneg (by omega) | (simp; omega))
    refine Hb.take (v := .int .i64 (i : Int)) 23 29 rfl ?_ (fun w' hw' => by go_simp; first | done | rfl | omega | exact wrap_in (by omega) (by omega) | exact Int.tmod_eq_emod_of_nonneg (by omega) | exact Int.tdiv_eq_ediv_of_nonneg (by omega) | (simp; omega))
    refine Hb.take (v := .pointer (some ⟨b, o + i * 7, none⟩)) 24 30 rfl ?_ (fun w' hw' => by go_simp; first | done | rfl | omega | exact wrap_in (by omega) (by omega) | exact Int.tmod_eq_emod_of_nonneg (by omega) | exact Int.tdiv_eq_ediv_of_nonneg (by omega) | (simp; omega))
    refine Hb.take (v := .pointer (some ⟨b, o + i * 7 + 5, none⟩)) 25 31 rfl ?_ (fun w' hw' => by go_simp; first | done | rfl | omega | exact wrap_in (by omega) (by omega) | exact Int.tmod_eq_emod_of_nonneg (by omega) | exact Int.tdiv_eq_ediv_of_nonneg (by omega) | (simp; omega))
    refine Hb.take (v := .int .i64 y.stamp) 26 32 rfl ?_ (fun w' hw' => by exact run_loadI ((hw'.cell (p := ⟨b, o + i * 7 + 5, none⟩) HB.out).trans (range_stamp (R1.out.rangeOf rfl HY.out))) rfl)
    refine Hb.take (v := .bool false) 27 33 rfl ?_ (fun w' hw' => by go_simp; first | done | rfl | omega | exact wrap_in (by omega) (by omega) | exact Int.tmod_eq_emod_of_nonneg (by omega) | exact Int.tdiv_eq_ediv_of_nonneg (by omega) | (simp; omega))
    refine Hb.take (v := .bool false) 28 34 rfl ?_ (fun _ _ => rfl)
    refine Hb.take (v := .bool false) 29 35 rfl ?_ (fun _ _ => rfl)
    refine Hb.done ?_
-- END
    go_wp2_with fail
    generalize w3 = wq at *
    have RQ := Lib.hid (show Rd wq.drew w1.drew.heap.size (some ⟨b, o, none⟩) c 7 n (els l) from R1.out.more (Nat.le_of_lt LT.out))
    have BQ := Lib.hid (show Below w.heap.size w wq.drew from BT.out.drew)
    replace K := Lib.hid (show Blk wq.drew w.heap.size 86 (ecs e) from K.out)
    clear R1 BT b2 b3
    refine Hb.begin ?_
    refine Hb.take (v := .slice (some ⟨b, o, none⟩) n c) 0 37 rfl ?_ (fun _ _ => rfl)
    refine Hb.take (v := ev e) 2 39 rfl ?_ (fun w' hw' => run_loadE ((K.out.below hw' K.out.lt).range) rfl)
    refine Hb.two 1 3 ?_ ?_
    · refine Hb.pick 1 (some 38) rfl ?_
      refine wpList_app rfl (.const (.slice none 0 0)) (.tmp 37) 39 rfl wq.drew.heap.size 86 _ 7 64 Tryz.underlying39 ent_info rfl (by omega) _ 0 [] rfl (World.ownsRow_nil _ _ _ _) _ (some ⟨b, o, none⟩) c n (els l) rfl RQ.out (els_one _) ?d1 ?d2 (Nat.le_refl _) ?_
      case d1 => unfold maxLen; omega
      case d2 => omega
      intro A4 c4 w4 o4 g4 b4
      rw [Nat.zero_add] at o4 ⊢
      rw [List.nil_append] at o4
      have O4 := Lib.hid o4
      have B4 := Lib.hid b4
      clear o4 g4 b4
      refine Hb.next B4.out (Nat.le_refl _) ?_
      refine Hb.only 3 (some 40) rfl ?_
      refine wpList_buildE rfl (.tmp 39) rfl e rfl ?_
      have b5 := (Below.refl w4.heap.size w4).alloc (Nat.le_refl _) (.cells (ecs e).toArray 86)
      have N5 := Lib.hid (Rd.new w4 (ecs e).toArray 86 7 1 rfl (by unfold maxLen; omega))
      have O5 := Lib.hid (own_below O4.out b5)
      have B5 := Lib.hid (b5.mono B4.out.size)
      have BA5 := Lib.hid (B4.out.trans B5.out)
      clear b5 O4
      refine Hb.next B5.out (Nat.le_refl _) ?_ (by simp only [Act.put, List.setIfInBounds_toArray, List.set_cons_succ, List.set_cons_zero]; rfl)
      refine Hb.only 4 (some 41) rfl ?_
      refine wpList_app rfl (.tmp 38) (.tmp 40) 39 rfl wq.drew.heap.size 86 _ 7 64 Tryz.underlying39 ent_info rfl (by omega) _ n (els l) rfl O5.out _ _ 1 1 (ecs e) rfl N5.out (ecs_one e) ?e1 ?e2 BA5.out.size ?_
      case e1 => unfold maxLen; omega
      case e2 => omega
      intro A6 c6 w6 o6 g6 b6
      refine Hb.next b6 (Nat.le_refl _) ?_
      refine Hb.take (v := .slice A6 (n + 1) c6) 5 4 rfl ?_ (fun _ _ => rfl)
      refine Hb.take (v := .bool true) 6 5 rfl ?_ (fun _ _ => rfl)
      refine Hb.done ?_
      have e6 : els l ++ ecs e = els (l ++ [e]) := by rw [els_append]; simp [els]
      rw [e6] at o6
      have O6 := Lib.hid (own_base o6 (show w.heap.size ≤ wq.drew.heap.size from BQ.out.size))
      have B6 := Lib.hid (BQ.out.trans ((BA5.out.trans b6).mono (show w.heap.size ≤ wq.drew.heap.size from BQ.out.size)))
      clear o6 b6 g6
      go_wp2_with fail
      go_ret2
      exact ⟨A6, c6, rfl, O6.out, B6.out⟩
    · refine Hb.pick 3 (some 40) rfl ?_
      refine wpList_buildE rfl (.tmp 39) rfl e rfl ?_
      have b4 := (Below.refl wq.drew.heap.size wq.drew).alloc (Nat.le_refl _) (.cells (ecs e).toArray 86)
      have N4 := Lib.hid (Rd.new wq.drew (ecs e).toArray 86 7 1 rfl (by unfold maxLen; omega))
      have R4 := Lib.hid (RQ.out.past b4)
      have B4 := Lib.hid b4
      clear b4
      refine Hb.next B4.out (Nat.le_refl _) ?_ (by simp only [Act.put, List.setIfInBounds_toArray, List.set_cons_succ, List.set_cons_zero]; rfl)
      generalize wq.drew.alloc (.cells (ecs e).toArray 86) = w4 at *
      refine Hb.only 1 (some 38) rfl ?_
      refine wpList_app rfl (.const (.slice none 0 0)) (.tmp 37) 39 rfl w4.heap.size 86 _ 7 64 Tryz.underlying39 ent_info rfl (by omega) _ 0 [] rfl (World.ownsRow_nil _ _ _ _) _ (some ⟨b, o, none⟩) c n (els l) rfl R4.out (els_one _) ?d1 ?d2 (Nat.le_refl _) ?_
      case d1 => unfold maxLen; omega
      case d2 => omega
      intro A5 c5 w5 o5 g5 b5
      rw [Nat.zero_add] at o5 ⊢
      rw [List.nil_append] at o5
      have O5 := Lib.hid (own_base o5 B4.out.size)
      have N5 := Lib.hid (N4.out.tight.past b5)
      have B5 := Lib.hid (b5.mono B4.out.size)
      have BA5 := Lib.hid (B4.out.trans B5.out)
      clear o5 g5 b5 N4
      refine Hb.next B5.out (Nat.le_refl _) ?_ (by simp only [Act.put, List.setIfInBounds_toArray, List.set_cons_succ, List.set_cons_zero]; rfl)
      refine Hb.only 4 (some 41) rfl ?_
      refine wpList_app rfl (.tmp 38) (.tmp 40) 39 rfl wq.drew.heap.size 86 _ 7 64 Tryz.underlying39 ent_info rfl (by omega) _ n (els l) rfl O5.out _ _ 1 1 (ecs e) rfl N5.out (ecs_one e) ?e1 ?e2 BA5.out.size ?_
      case e1 => unfold maxLen; omega
      case e2 => omega
      intro A6 c6 w6 o6 g6 b6
      refine Hb.next b6 (Nat.le_refl _) ?_
      refine Hb.take (v := .slice A6 (n + 1) c6) 5 4 rfl ?_ (fun _ _ => rfl)
      refine Hb.take (v := .bool true) 6 5 rfl ?_ (fun _ _ => rfl)
      refine Hb.done ?_
      have e6 : els l ++ ecs e = els (l ++ [e]) := by rw [els_append]; simp [els]
      rw [e6] at o6
      have O6 := Lib.hid (own_base o6 (show w.heap.size ≤ wq.drew.heap.size from BQ.out.size))
      have B6 := Lib.hid (BQ.out.trans ((BA5.out.trans b6).mono (show w.heap.size ≤ wq.drew.heap.size from BQ.out.size)))
      clear o6 b6 g6
      go_wp2_with fail
      go_ret2
      exact ⟨A6, c6, rfl, O6.out, B6.out⟩

set_option maxHeartbeats 8000000 in
set_option maxRecDepth 100000 in
theorem rLog_c (w : World) (B : Nat) (A : Option Addr) (c n : Nat) (es : List Ent) (R : Rd w B A c 7 n (els es)) :
    Calls Tryz.prog 32 #[.slice A n c] w fun x w' => ∃ A' c', x = .returned (.slice A' (PLog.log es).length c') ∧ w'.ownsRow w.heap.size 86 7 (.slice A' (PLog.log es).length c') (PLog.log es).length (els (PLog.log es)) ∧ Below w.heap.size w w' := by
  have hcap := R.cap
  have hle := R.le
  have hn : n ≤ 9223372036854775807 := by unfold maxLen at hcap; omega
  have HL := Lib.hid R.elen
  have R0 := Lib.hid R.tight
  clear R hcap hle
  go_enter Tryz.func32, Tryz.ntmps32
  go_wp2_with fail
  go_loopw [3, 4] (fun s3 s4 wr => ∃ (i m : Nat) (A' : Option Addr) (c' : Nat), i ≤ n ∧ s4 = .int .i64 i ∧ s3 = .slice A' m c' ∧ Hid ((PLog.log (es.take i)).length = m) ∧ Hid (wr.ownsRow w.heap.size 86 7 (.slice A' m c') m (els (PLog.log (es.take i)))) ∧ Hid (Below w.heap.size w wr)) (fun _ s4 _ => n - (intOf s4).toNat)
  case atStart => exact ⟨0, 0, none, 0, by omega, rfl, rfl, Lib.hid rfl, Lib.hid (World.ownsRow_nil _ _ _ _), Lib.hid (Below.refl _ _)⟩
  case round =>
    obtain ⟨i, m, A1, c1, hi, rfl, rfl, HM, HO, BT⟩ := hrel
    by_cases hin : i < n
    · obtain ⟨b, o, e, rfl, -, he, -, d0, d1, d2, d3, d4, d5, d6⟩ := (R0.out.below BT.out).ent hin
      have HE := Lib.hid he
      clear he
      have HQ := Lib.hid (show PLog.log (es.take (i + 1)) = PLog.add (PLog.log (es.take i)) e by rw [take_step HE.out, PLog.log_append])
      go_wp2_with fail
      clear d0 d1 d2 d3 d4 d5 d6
      cases hc : PLog.can (PLog.log (es.take i)) e
      · have HQ2 := Lib.hid (show PLog.log (es.take (i + 1)) = PLog.log (es.take i) by rw [HQ.out]; unfold PLog.add; rw [hc]; rfl)
        refine (rAdd_no wr _ A1 c1 m _ (Rd.of_own HO.out) e hc).mono ?_
        clear hc
        rintro x w2 ⟨rfl, b2⟩
        have O2 := Lib.hid (own_below HO.out b2)
        have B2 := Lib.hid (BT.out.trans (b2.mono BT.out.size))
        clear b2
        go_wp2_with fail
        go_roundw
        case rel => exact ⟨i + 1, m, A1, c1, by omega, by go_num, rfl, by rw [HQ2.out]; exact HM, by rw [HQ2.out]; exact O2, B2⟩
        case measure => simp [intOf]; omega
      · have HQ2 := Lib.hid (show PLog.log (es.take (i + 1)) = PLog.log (es.take i) ++ [e] by rw [HQ.out]; unfold PLog.add; rw [hc]; rfl)
        refine (rAdd_yes wr _ A1 c1 m _ (Rd.of_own HO.out) e hc).mono ?_
        clear hc
        rintro x w2 ⟨A2, c2, rfl, o2, b2⟩
        have O2 := Lib.hid (own_base o2 BT.out.size)
        have B2 := Lib.hid (BT.out.trans (b2.mono BT.out.size))
        clear b2 o2
        go_wp2_with fail
        go_roundw
        case rel => exact ⟨i + 1, m + 1, A2, c2, by omega, by go_num, rfl, Lib.hid (by rw [HQ2.out]; simp [HM.out]), by rw [HQ2.out]; exact O2, B2⟩
        case measure => simp [intOf]; omega
    · obtain rfl : i = n := by omega
      have e1 : es.take i = es := List.take_of_length_le (by rw [HL.out]; omega)
      rw [e1] at HM HO
      go_wp2_with fail
      go_ret
      refine ⟨A1, c1, ?_, ?_, BT.out⟩
      · rw [HM.out]; rfl
      · rw [HM.out]; exact HO.out


end Go.Proofs.YtfolifhgmdglaaaGreatDoor

/- A process that started anew takes the word (hearState); its log is empty. -/
namespace Go.Proofs.YtfolifhgmdglaaaGreatDoor
open Go.RowKit PNode

def ackM (p : Np) (probe : Int) : Msg := ⟨6, 0, 0, 0, p.last, 0, 0, 0, [], 0, probe, 0, false⟩

set_option maxHeartbeats 4000000 in
set_option maxRecDepth 100000 in
theorem ack0_c {w : World} {x d : Nat} {F : List Nat} {p : Np} (h : Nd w x d F p) (m : Msg) (A : Option Addr) (c : Nat) (probe : Int) (hL : p.L = []) :
    Calls Tryz.prog 138 #[.pointer (some ⟨x, 0, none⟩), mv m A c, .int .i64 probe] w (TickPost w x d F (cOne p m.fr (ackM p probe) p)) := by
  obtain ⟨a, s0, hr⟩ := h.open
  have HR := Lib.hid hr
  have HH := Lib.hid h
  have b0 := Lib.hid ((Below.refl w.heap.size w).alloc (Nat.le_refl _) (.cells #[.int .i64 m.kind, .int .i64 m.fr, .int .i64 m.dst, .int .i64 m.boot, .int .i64 m.view, .int .i64 m.last, .int .i64 m.mem, .int .i64 m.pos, .slice A m.es.length c, .int .i64 m.com, .int .i64 m.num, .int .i64 m.clk, .bool m.yes] 47))
  have K1 : Hid (Blk (w.alloc (.cells #[.int .i64 m.kind, .int .i64 m.fr, .int .i64 m.dst, .int .i64 m.boot, .int .i64 m.view, .int .i64 m.last, .int .i64 m.mem, .int .i64 m.pos, .slice A m.es.length c, .int .i64 m.com, .int .i64 m.num, .int .i64 m.clk, .bool m.yes] 47)) w.heap.size 47 (mcs m A c)) := Lib.hid (Blk.new w #[.int .i64 m.kind, .int .i64 m.fr, .int .i64 m.dst, .int .i64 m.boot, .int .i64 m.view, .int .i64 m.last, .int .i64 m.mem, .int .i64 m.pos, .slice A m.es.length c, .int .i64 m.com, .int .i64 m.num, .int .i64 m.clk, .bool m.yes] 47)
  have S1 := Lib.hid (s0.alloc (.cells #[.int .i64 m.kind, .int .i64 m.fr, .int .i64 m.dst, .int .i64 m.boot, .int .i64 m.view, .int .i64 m.last, .int .i64 m.mem, .int .i64 m.pos, .slice A m.es.length c, .int .i64 m.com, .int .i64 m.num, .int .i64 m.clk, .bool m.yes] 47))
  have B1 : Hid (Blk (w.alloc (.cells #[.int .i64 m.kind, .int .i64 m.fr, .int .i64 m.dst, .int .i64 m.boot, .int .i64 m.view, .int .i64 m.last, .int .i64 m.mem, .int .i64 m.pos, .slice A m.es.length c, .int .i64 m.com, .int .i64 m.num, .int .i64 m.clk, .bool m.yes] 47)) x 78 (ncs d p a)) := Lib.hid (S1.out.sep.get (i := 0) rfl)
  show Calls _ _ #[_, .agg #[.int .i64 m.kind, .int .i64 m.fr, .int .i64 m.dst, .int .i64 m.boot, .int .i64 m.view, .int .i64 m.last, .int .i64 m.mem, .int .i64 m.pos, .slice A m.es.length c, .int .i64 m.com, .int .i64 m.num, .int .i64 m.clk, .bool m.yes], _] _ _
  have L1 : Hid (Lg (w.alloc (.cells #[.int .i64 m.kind, .int .i64 m.fr, .int .i64 m.dst, .int .i64 m.boot, .int .i64 m.view, .int .i64 m.last, .int .i64 m.mem, .int .i64 m.pos, .slice A m.es.length c, .int .i64 m.com, .int .i64 m.num, .int .i64 m.clk, .bool m.yes] 47)) a.lg a.FL []) := Lib.hid (by have : Lg (w.alloc (.cells #[.int .i64 m.kind, .int .i64 m.fr, .int .i64 m.dst, .int .i64 m.boot, .int .i64 m.view, .int .i64 m.last, .int .i64 m.mem, .int .i64 m.pos, .slice A m.es.length c, .int .i64 m.com, .int .i64 m.num, .int .i64 m.clk, .bool m.yes] 47)) a.lg a.FL p.L := S1.out.sep.get (i := 2) rfl; rw [hL] at this; exact this)
  clear h hr s0 hL
  go_enter Tryz.func138, Tryz.ntmps138
  go_wp2_with fail
-- REGION (*curfew/node.Node).ack 1 nack 2
  refine Hb.begin ?_
  refine Hb.take (v := .pointer (some ⟨x, 0, none⟩)) 0 7 rfl ?_ (fun _ _ => rfl)
  refine Hb.take (v := .agg #[.int .i64 m.kind, .int .i64 m.fr, .int .i64 m.dst, .int .i64 m.boot, .int .i64 m.view, .int .i64 m.last, .int .i64 m.mem, .int .i64 m.pos, .slice A m.es.length c, .int .i64 m.com, .int .i64 m.num, .int .i64 m.clk, .bool m.yes]) 1 8 rfl ?_ (fun w' hw' => by exact run_loadM (Blk.past (show Blk (w.alloc (.cells #[.int .i64 m.kind, .int .i64 m.fr, .int .i64 m.dst, .int .i64 m.boot, .int .i64 m.view, .int .i64 m.last, .int .i64 m.mem, .int .i64 m.pos, .slice A m.es.length c, .int .i64 m.com, .int .i64 m.num, .int .i64 m.clk, .bool m.yes] 47)).drew w.heap.size 47 (mcs m A c) from K1.out) hw') rfl)
  refine Hb.take (v := .pointer (some ⟨x, 0, none⟩)) 2 9 rfl ?_ (fun _ _ => rfl)
  refine Hb.take (v := .pointer (some ⟨x, 0, none⟩)) 3 10 rfl ?_ (fun w' hw' => by go_simp; first | done | rfl | omega | exact wrap_in (by omega) (by omega) | exact Int.tmod_eq_emod_of_nonneg (by omega) | exact Int.tdiv_eq_ediv_of_nonneg (by omega) | (simp; omega))
  refine Hb.take (v := .pointer (some ⟨x, 7, none⟩)) 4 11 rfl ?_ (fun w' hw' => by go_simp; first | done | rfl | omega | exact wrap_in (by omega) (by omega) | exact Int.tmod_eq_emod_of_nonneg (by omega) | exact Int.tdiv_eq_ediv_of_nonneg (by omega) | (simp; omega))
  refine Hb.take (v := .int .i64 p.last) 5 12 rfl ?_ (fun w' hw' => by exact ldI64 (Blk.cell (i := 7) (Blk.past (show Blk (w.alloc (.cells #[.int .i64 m.kind, .int .i64 m.fr, .int .i64 m.dst, .int .i64 m.boot, .int .i64 m.view, .int .i64 m.last, .int .i64 m.mem, .int .i64 m.pos, .slice A m.es.length c, .int .i64 m.com, .int .i64 m.num, .int .i64 m.clk, .bool m.yes] 47)).drew x 78 (ncs d p a) from B1.out) hw') rfl) rfl)
  refine Hb.take (v := .pointer (some ⟨x, 0, none⟩)) 6 13 rfl ?_ (fun _ _ => rfl)
  refine Hb.take (v := .pointer (some ⟨x, 0, none⟩)) 7 14 rfl ?_ (fun w' hw' => by go_simp; first | done | rfl | omega | exact wrap_in (by omega) (by omega) | exact Int.tmod_eq_emod_of_nonneg (by omega) | exact Int.tdiv_eq_ediv_of_nonneg (by omega) | (simp; omega))
  refine Hb.take (v := .pointer (some ⟨x, 9, none⟩)) 8 15 rfl ?_ (fun w' hw' => by go_simp; first | done | rfl | omega | exact wrap_in (by omega) (by omega) | exact Int.tmod_eq_emod_of_nonneg (by omega) | exact Int.tdiv_eq_ediv_of_nonneg (by omega) | (simp; omega))
  refine Hb.take (v := .pointer (some ⟨a.lg, 0, none⟩)) 9 16 rfl ?_ (fun w' hw' => by exact ldLog (Blk.cell (i := 9) (Blk.past (show Blk (w.alloc (.cells #[.int .i64 m.kind, .int .i64 m.fr, .int .i64 m.dst, .int .i64 m.boot, .int .i64 m.view, .int .i64 m.last, .int .i64 m.mem, .int .i64 m.pos, .slice A m.es.length c, .int .i64 m.com, .int .i64 m.num, .int .i64 m.clk, .bool m.yes] 47)).drew x 78 (ncs d p a) from B1.out) hw') rfl) rfl)
  refine Hb.take (v := .int .i64 probe) 11 18 rfl ?_ (fun _ _ => rfl)
  refine Hb.call (f := 135) (args := #[.pointer (some ⟨a.lg, 0, none⟩)]) 10 17 rfl ?_ (run_callf Tryz.func135 (by kernel_rfl) (by kernel_rfl) (by simp only [List.map_toArray, List.map_cons, List.map_nil]; rfl))
  refine (Len_c (w.alloc (.cells #[.int .i64 m.kind, .int .i64 m.fr, .int .i64 m.dst, .int .i64 m.boot, .int .i64 m.view, .int .i64 m.last, .int .i64 m.mem, .int .i64 m.pos, .slice A m.es.length c, .int .i64 m.com, .int .i64 m.num, .int .i64 m.clk, .bool m.yes] 47)).drew a.lg a.FL [] L1.out.drew).mono ?_
  rintro e w2 ⟨rfl, rfl⟩
  refine Hb.back (Below.refl _ _) (Nat.le_refl _) ?_
  refine Hb.take (v := .agg #[.int .i64 6, .int .i64 0, .int .i64 0, .int .i64 0, .int .i64 p.last, .int .i64 0, .int .i64 0, .int .i64 0, .slice none 0 0, .int .i64 0, .int .i64 probe, .int .i64 0, .bool false]) 12 19 rfl ?_ (fun w' hw' => by go_simp; first | done | rfl | omega | exact wrap_in (by omega) (by omega) | exact Int.tmod_eq_emod_of_nonneg (by omega) | exact Int.tdiv_eq_ediv_of_nonneg (by omega) | (simp; omega))
  refine Hb.call (f := 82) (args := #[.pointer (some ⟨x, 0, none⟩), .agg #[.int .i64 m.kind, .int .i64 m.fr, .int .i64 m.dst, .int .i64 m.boot, .int .i64 m.view, .int .i64 m.last, .int .i64 m.mem, .int .i64 m.pos, .slice A m.es.length c, .int .i64 m.com, .int .i64 m.num, .int .i64 m.clk, .bool m.yes], .agg #[.int .i64 6, .int .i64 0, .int .i64 0, .int .i64 0, .int .i64 p.last, .int .i64 0, .int .i64 0, .int .i64 0, .slice none 0 0, .int .i64 0, .int .i64 probe, .int .i64 0, .bool false]]) 13 20 rfl ?_ (run_callf Tryz.func82 (by kernel_rfl) (by kernel_rfl) (by simp only [List.map_toArray, List.map_cons, List.map_nil]; rfl))
  refine (reply_c (show Blk (w.alloc (.cells #[.int .i64 m.kind, .int .i64 m.fr, .int .i64 m.dst, .int .i64 m.boot, .int .i64 m.view, .int .i64 m.last, .int .i64 m.mem, .int .i64 m.pos, .slice A m.es.length c, .int .i64 m.com, .int .i64 m.num, .int .i64 m.clk, .bool m.yes] 47)).drew x 78 (ncs d p a) from B1.out) m A c (ackM p probe) none 0).mono ?_
  rintro e w2 ⟨g, rfl, K3, hg, b2⟩
  have BE := Lib.hid (b0.out.drew.trans (b2.mono b0.out.size))
  have K3 := Lib.hid K3
  have HG := Lib.hid (show w.heap.size ≤ g from Nat.le_trans b0.out.size hg)
  clear hg
  refine Hb.back b2 b2.size ?_
  refine Hb.take (v := .slice (some ⟨g, 0, none⟩) 1 1) 14 6 rfl ?_ (fun _ _ => rfl)
  refine Hb.done ?_
-- END
  go_wp2_with fail
  go_ret
  exact ⟨[⟨sends p m.fr (ackM p probe), none, 0⟩], p, some ⟨g, 0, none⟩, 1, ⟨none, 0, rfl, rfl⟩, rfl, ow_one K3.out HG.out, .same HH.out BE.out⟩

/-- Behind its entering a view. -/
def entP (p : Np) (view : Int) (mem : Nat) : Np := { proP p view with last := view, mem := mem, L := [], com := 0 }
theorem Rd.zero {w w' : World} {B k c : Nat} {A : Option Addr} {xs : List Value} (h : Rd w B A c k 0 xs) : Rd w' w'.heap.size A c k 0 xs := ⟨h.1, h.2.1, h.2.2.1, h.2.2.2.1, fun hp => by omega⟩
theorem Nr.ent {p : Np} (h : Nr p) {view : Int} {mem : Nat} (h1 : 0 ≤ view) (h2 : view ≤ 1099511627776) (h3 : mem < 128) : Nr (entP p view mem) :=
  have k := h.promise view
  ⟨k.n, k.id, k.boot, k.pro, k.clock, k.heard, ⟨h1, by show view ≤ PStab.put p.pro view; unfold PStab.put; split <;> omega⟩, h3, ⟨Int.le_refl _, Int.le_refl _⟩, fun _ _ e => (by cases e), k.den, k.pf, k.seq⟩

set_option maxHeartbeats 4000000 in
set_option maxRecDepth 100000 in
theorem enter0_c {w : World} {x d : Nat} {F : List Nat} {p : Np} (h : Nd w x d F p) (m : Msg) (A : Option Addr) (c : Nat) (mem : Nat) (hm : m.mem = mem) (h128 : mem < 128) (hv : 0 ≤ m.view ∧ m.view ≤ 1099511627776) (hes : m.es = []) (R : Rd w w.heap.size A c 7 0 (els [])) :
    Calls Tryz.prog 137 #[.pointer (some ⟨x, 0, none⟩), mv m A c] w fun e w' => e = .returned (.tuple #[]) ∧ NdW w w' x d F (entP p m.view mem) := by
  obtain ⟨a, s0, hr⟩ := h.open
  have HR := Lib.hid hr
  have HH := Lib.hid h
  have b0 := Lib.hid ((Below.refl w.heap.size w).alloc (Nat.le_refl _) (.cells #[.int .i64 m.kind, .int .i64 m.fr, .int .i64 m.dst, .int .i64 m.boot, .int .i64 m.view, .int .i64 m.last, .int .i64 m.mem, .int .i64 m.pos, .slice A m.es.length c, .int .i64 m.com, .int .i64 m.num, .int .i64 m.clk, .bool m.yes] 47))
  have K1 : Hid (Blk (w.alloc (.cells #[.int .i64 m.kind, .int .i64 m.fr, .int .i64 m.dst, .int .i64 m.boot, .int .i64 m.view, .int .i64 m.last, .int .i64 m.mem, .int .i64 m.pos, .slice A m.es.length c, .int .i64 m.com, .int .i64 m.num, .int .i64 m.clk, .bool m.yes] 47)) w.heap.size 47 (mcs m A c)) := Lib.hid (Blk.new w #[.int .i64 m.kind, .int .i64 m.fr, .int .i64 m.dst, .int .i64 m.boot, .int .i64 m.view, .int .i64 m.last, .int .i64 m.mem, .int .i64 m.pos, .slice A m.es.length c, .int .i64 m.com, .int .i64 m.num, .int .i64 m.clk, .bool m.yes] 47)
  have S1 := Lib.hid (s0.alloc (.cells #[.int .i64 m.kind, .int .i64 m.fr, .int .i64 m.dst, .int .i64 m.boot, .int .i64 m.view, .int .i64 m.last, .int .i64 m.mem, .int .i64 m.pos, .slice A m.es.length c, .int .i64 m.com, .int .i64 m.num, .int .i64 m.clk, .bool m.yes] 47))
  have B1 : Hid (Blk (w.alloc (.cells #[.int .i64 m.kind, .int .i64 m.fr, .int .i64 m.dst, .int .i64 m.boot, .int .i64 m.view, .int .i64 m.last, .int .i64 m.mem, .int .i64 m.pos, .slice A m.es.length c, .int .i64 m.com, .int .i64 m.num, .int .i64 m.clk, .bool m.yes] 47)) x 78 (ncs d p a)) := Lib.hid (S1.out.sep.get (i := 0) rfl)
  show Calls _ _ #[_, .agg #[.int .i64 m.kind, .int .i64 m.fr, .int .i64 m.dst, .int .i64 m.boot, .int .i64 m.view, .int .i64 m.last, .int .i64 m.mem, .int .i64 m.pos, .slice A m.es.length c, .int .i64 m.com, .int .i64 m.num, .int .i64 m.clk, .bool m.yes]] _ _
  have hel : m.es.length = 0 := by rw [hes]; rfl
  have R1 := Lib.hid (R.past ((Below.refl w.heap.size w).alloc (Nat.le_refl _) (.cells #[.int .i64 m.kind, .int .i64 m.fr, .int .i64 m.dst, .int .i64 m.boot, .int .i64 m.view, .int .i64 m.last, .int .i64 m.mem, .int .i64 m.pos, .slice A m.es.length c, .int .i64 m.com, .int .i64 m.num, .int .i64 m.clk, .bool m.yes] 47))).tight
  have N1 : Hid (Nd (w.alloc (.cells #[.int .i64 m.kind, .int .i64 m.fr, .int .i64 m.dst, .int .i64 m.boot, .int .i64 m.view, .int .i64 m.last, .int .i64 m.mem, .int .i64 m.pos, .slice A m.es.length c, .int .i64 m.com, .int .i64 m.num, .int .i64 m.clk, .bool m.yes] 47)) x d F p) := Lib.hid (h.past ((Below.refl w.heap.size w).alloc (Nat.le_refl _) (.cells #[.int .i64 m.kind, .int .i64 m.fr, .int .i64 m.dst, .int .i64 m.boot, .int .i64 m.view, .int .i64 m.last, .int .i64 m.mem, .int .i64 m.pos, .slice A m.es.length c, .int .i64 m.com, .int .i64 m.num, .int .i64 m.clk, .bool m.yes] 47)))
  have HE := Lib.hid (hr.ent (mem := mem) hv.1 hv.2 h128)
  have hk := Lib.hid hm
  have hl0 := Lib.hid hel
  clear h hr s0 hm R hes hel S1 B1
  go_enter Tryz.func137, Tryz.ntmps137
  go_wp2_with fail
  generalize (w.alloc (.cells #[.int .i64 m.kind, .int .i64 m.fr, .int .i64 m.dst, .int .i64 m.boot, .int .i64 m.view, .int .i64 m.last, .int .i64 m.mem, .int .i64 m.pos, .slice A m.es.length c, .int .i64 m.com, .int .i64 m.num, .int .i64 m.clk, .bool m.yes] 47)) = W1 at *
  refine (promise_c N1.out m.view).mono ?_
  rintro e w2 ⟨rfl, ⟨⟨F2, N2, hF2⟩, T2⟩⟩
  obtain ⟨s, hs⟩ : ∃ s, w.heap.size = s := ⟨_, rfl⟩
  rw [hs] at K1
  rw [hs]
  have HS := Lib.hid hs
  have K2 := Lib.hid (K1.out.touch T2 (N1.out.off K1.out (by decide)))
  have R2 : Hid (Rd w2 w2.heap.size A c 7 0 (els [])) := Lib.hid R1.out.zero
  obtain ⟨a2, s2, -⟩ := N2.open
  have HF2 := Lib.hid hF2
  have HT2 := Lib.hid T2
  have S2 := Lib.hid s2
  have B2 : Hid (Blk w2 x 78 (ncs d (proP p m.view) a2)) := Lib.hid (s2.sep.get (i := 0) rfl)
  have k4 : w2.cell? ⟨s, 4, none⟩ = some (.int .i64 m.view) := K2.out.cell rfl
  have k6 : w2.cell? ⟨s, 6, none⟩ = some (.int .i64 mem) := by rw [← hk.out]; exact K2.out.cell rfl
  have c7 : w2.cell? ⟨x, 7, none⟩ = some (.int .i64 p.last) := B2.out.cell rfl
  have c8 : w2.cell? ⟨x, 8, none⟩ = some (.int .i64 p.mem) := B2.out.cell rfl
  have f7 := B2.out.free 7
  have f8 := B2.out.free 8
  have hne : s ≠ x := K2.out.ne B2.out (by decide)
  have hne2 : x ≠ s := fun h => hne h.symm
  clear hs N2 hF2 T2 s2 N1 K1 R1 HH
  go_wp2_with fail
  go_big_region
  have B3 := Lib.hid (show Blk ((w2.setCell ⟨x, 7, none⟩ (.int .i64 m.view)).setCell ⟨x, 8, none⟩ (.int .i64 mem)).drew x 78 (ncs d { proP p m.view with last := m.view, mem := mem } a2) from ((B2.out.set 7 (.int .i64 m.view)).set 8 (.int .i64 mem)).drew)
  have T3 := Lib.hid (show Touch [x] w2 ((w2.setCell ⟨x, 7, none⟩ (.int .i64 m.view)).setCell ⟨x, 8, none⟩ (.int .i64 mem)).drew from (((Touch.refl [x] w2).cell (g := x) (by simp) 7 (.int .i64 m.view)).cell (g := x) (by simp) 8 (.int .i64 mem)).drew)
  have S3 := Lib.hid (S2.out.set 0 rfl (pX_ok x d { proP p m.view with last := m.view, mem := mem } a2) T3.out B3.out (fun k hk => .inl hk))
  have K3 := Lib.hid (K2.out.touch T3.out (by rw [List.mem_singleton]; exact hne))
  have R3 : Hid (Rd ((w2.setCell ⟨x, 7, none⟩ (.int .i64 m.view)).setCell ⟨x, 8, none⟩ (.int .i64 mem)).drew ((w2.setCell ⟨x, 7, none⟩ (.int .i64 m.view)).setCell ⟨x, 8, none⟩ (.int .i64 mem)).drew.heap.size A c 7 0 (els [])) := Lib.hid R2.out.zero
  clear k4 k6 c7 c8 f7 f8 B2 S2 K2 R2
  generalize ((w2.setCell ⟨x, 7, none⟩ (.int .i64 m.view)).setCell ⟨x, 8, none⟩ (.int .i64 mem)).drew = w3 at *
  have hr3 : Nr { proP p m.view with last := m.view, mem := mem } := ⟨HE.out.n, HE.out.id, HE.out.boot, HE.out.pro, HE.out.clock, HE.out.heard, HE.out.last, HE.out.mem, ⟨HR.out.com.1, HR.out.com.2⟩, HE.out.vo, HE.out.den, HE.out.pf, HE.out.seq⟩
  have W3 := Lib.hid ((show St okN w2 w3 F2 (parts x d { proP p m.view with last := m.view, mem := mem } a2) from S3.out).shut hr3)
  have k8 : w3.cell? ⟨s, 8, none⟩ = some (.slice A 0 c) := by have : w3.cell? ⟨s, 8, none⟩ = some (.slice A m.es.length c) := K3.out.cell rfl; rw [hl0.out] at this; exact this
  have k9 : w3.cell? ⟨s, 9, none⟩ = some (.int .i64 m.com) := K3.out.cell rfl
  clear hr3 B3 S3 K3
  go_wp2_with fail
  obtain ⟨⟨F3, n3, hF3⟩, t3⟩ := W3.out
  refine (take0_c n3 R3.out m.com).mono ?_
  rintro e w4 ⟨rfl, W4⟩
  have W5 := Lib.hid ((NdW.then (w := W1) HF2.out HT2.out (NdW.then hF3 t3 W4)).behind b0.out)
  clear n3 hF3 t3 W4 W3
  go_wp2_with fail
  go_end0
  exact ⟨rfl, W5.out⟩

section
variable {w : World} {x d : Nat} {F : List Nat} {p : Np} (h : Nd w x d F p) (m : Msg) (A : Option Addr) (c : Nat)
include h

set_option maxHeartbeats 8000000 in
set_option maxRecDepth 100000 in
theorem state_no {jp : Int} (hj : p.jo = some jp) (R : Rd w w.heap.size A c 7 m.es.length (els m.es)) (hv : 0 ≤ m.view ∧ m.view ≤ 1099511627776) (hm : 0 ≤ m.mem ∧ m.mem ≤ 127) (hw : PJoin.word p.id p.n p.boot jp m = false) :
    Calls Tryz.prog 91 #[.pointer (some ⟨x, 0, none⟩), mv m A c] w (TickPost w x d F (cDone p)) := by
  obtain ⟨a, s0, hr⟩ := h.open
  have HR := Lib.hid hr
  have HH := Lib.hid h
  have b0 := Lib.hid ((Below.refl w.heap.size w).alloc (Nat.le_refl _) (.cells #[.int .i64 m.kind, .int .i64 m.fr, .int .i64 m.dst, .int .i64 m.boot, .int .i64 m.view, .int .i64 m.last, .int .i64 m.mem, .int .i64 m.pos, .slice A m.es.length c, .int .i64 m.com, .int .i64 m.num, .int .i64 m.clk, .bool m.yes] 47))
  have K1 : Hid (Blk (w.alloc (.cells #[.int .i64 m.kind, .int .i64 m.fr, .int .i64 m.dst, .int .i64 m.boot, .int .i64 m.view, .int .i64 m.last, .int .i64 m.mem, .int .i64 m.pos, .slice A m.es.length c, .int .i64 m.com, .int .i64 m.num, .int .i64 m.clk, .bool m.yes] 47)) w.heap.size 47 (mcs m A c)) := Lib.hid (Blk.new w #[.int .i64 m.kind, .int .i64 m.fr, .int .i64 m.dst, .int .i64 m.boot, .int .i64 m.view, .int .i64 m.last, .int .i64 m.mem, .int .i64 m.pos, .slice A m.es.length c, .int .i64 m.com, .int .i64 m.num, .int .i64 m.clk, .bool m.yes] 47)
  have S1 := Lib.hid (s0.alloc (.cells #[.int .i64 m.kind, .int .i64 m.fr, .int .i64 m.dst, .int .i64 m.boot, .int .i64 m.view, .int .i64 m.last, .int .i64 m.mem, .int .i64 m.pos, .slice A m.es.length c, .int .i64 m.com, .int .i64 m.num, .int .i64 m.clk, .bool m.yes] 47))
  have B1 : Hid (Blk (w.alloc (.cells #[.int .i64 m.kind, .int .i64 m.fr, .int .i64 m.dst, .int .i64 m.boot, .int .i64 m.view, .int .i64 m.last, .int .i64 m.mem, .int .i64 m.pos, .slice A m.es.length c, .int .i64 m.com, .int .i64 m.num, .int .i64 m.clk, .bool m.yes] 47)) x 78 (ncs d p a)) := Lib.hid (S1.out.sep.get (i := 0) rfl)
  show Calls _ _ #[_, .agg #[.int .i64 m.kind, .int .i64 m.fr, .int .i64 m.dst, .int .i64 m.boot, .int .i64 m.view, .int .i64 m.last, .int .i64 m.mem, .int .i64 m.pos, .slice A m.es.length c, .int .i64 m.com, .int .i64 m.num, .int .i64 m.clk, .bool m.yes]] _ _
  have hjp := hj
  have J1 : Hid (Jn (w.alloc (.cells #[.int .i64 m.kind, .int .i64 m.fr, .int .i64 m.dst, .int .i64 m.boot, .int .i64 m.view, .int .i64 m.last, .int .i64 m.mem, .int .i64 m.pos, .slice A m.es.length c, .int .i64 m.com, .int .i64 m.num, .int .i64 m.clk, .bool m.yes] 47)) a.jg a.FJ p.id p.n p.boot jp none) := Lib.hid (by have : (pJ p.id p.n p.boot a p.jo).P (w.alloc (.cells #[.int .i64 m.kind, .int .i64 m.fr, .int .i64 m.dst, .int .i64 m.boot, .int .i64 m.view, .int .i64 m.last, .int .i64 m.mem, .int .i64 m.pos, .slice A m.es.length c, .int .i64 m.com, .int .i64 m.num, .int .i64 m.clk, .bool m.yes] 47)) := S1.out.sep.get (i := 5) rfl; rw [hjp] at this; exact this)
  have B1j : Hid (Blk (w.alloc (.cells #[.int .i64 m.kind, .int .i64 m.fr, .int .i64 m.dst, .int .i64 m.boot, .int .i64 m.view, .int .i64 m.last, .int .i64 m.mem, .int .i64 m.pos, .slice A m.es.length c, .int .i64 m.com, .int .i64 m.num, .int .i64 m.clk, .bool m.yes] 47)) x 78 (ncs d { p with jo := some jp } a)) := Lib.hid (by rw [← hjp]; exact B1.out)
  have HJ := Lib.hid hjp
  have R1 := Lib.hid (R.past ((Below.refl w.heap.size w).alloc (Nat.le_refl _) (.cells #[.int .i64 m.kind, .int .i64 m.fr, .int .i64 m.dst, .int .i64 m.boot, .int .i64 m.view, .int .i64 m.last, .int .i64 m.mem, .int .i64 m.pos, .slice A m.es.length c, .int .i64 m.com, .int .i64 m.num, .int .i64 m.clk, .bool m.yes] 47)).drew).tight
  have HV := Lib.hid hv
  have HM := Lib.hid hm
  have HW := Lib.hid hw
  clear h hr s0 hj hjp R hv hm hw
  go_enter Tryz.func91, Tryz.ntmps91
  go_wp2_with fail
-- REGION (*curfew/node.Node).hearState 1 nstate1f 2
  refine Hb.begin ?_
  refine Hb.take (v := .pointer (some ⟨x, 0, none⟩)) 0 5 rfl ?_ (fun _ _ => rfl)
  refine Hb.take (v := .pointer (some ⟨x, 0, none⟩)) 1 6 rfl ?_ (fun w' hw' => by go_simp; first | done | rfl | omega | exact wrap_in (by omega) (by omega) | exact Int.tmod_eq_emod_of_nonneg (by omega) | exact Int.tdiv_eq_ediv_of_nonneg (by omega) | (simp; omega))
  refine Hb.take (v := .pointer (some ⟨x, 14, none⟩)) 2 7 rfl ?_ (fun w' hw' => by go_simp; first | done | rfl | omega | exact wrap_in (by omega) (by omega) | exact Int.tmod_eq_emod_of_nonneg (by omega) | exact Int.tdiv_eq_ediv_of_nonneg (by omega) | (simp; omega))
  refine Hb.take (v := .pointer (some ⟨a.jg, 0, none⟩)) 3 8 rfl ?_ (fun w' hw' => by exact ldJoin (Blk.cell (i := 14) (Blk.past (show Blk (w.alloc (.cells #[.int .i64 m.kind, .int .i64 m.fr, .int .i64 m.dst, .int .i64 m.boot, .int .i64 m.view, .int .i64 m.last, .int .i64 m.mem, .int .i64 m.pos, .slice A m.es.length c, .int .i64 m.com, .int .i64 m.num, .int .i64 m.clk, .bool m.yes] 47)).drew x 78 (ncs d { p with jo := some jp } a) from B1j.out) hw') rfl) rfl)
  refine Hb.take (v := .agg #[.int .i64 m.kind, .int .i64 m.fr, .int .i64 m.dst, .int .i64 m.boot, .int .i64 m.view, .int .i64 m.last, .int .i64 m.mem, .int .i64 m.pos, .slice A m.es.length c, .int .i64 m.com, .int .i64 m.num, .int .i64 m.clk, .bool m.yes]) 4 9 rfl ?_ (fun w' hw' => by exact run_loadM (Blk.past (show Blk (w.alloc (.cells #[.int .i64 m.kind, .int .i64 m.fr, .int .i64 m.dst, .int .i64 m.boot, .int .i64 m.view, .int .i64 m.last, .int .i64 m.mem, .int .i64 m.pos, .slice A m.es.length c, .int .i64 m.com, .int .i64 m.num, .int .i64 m.clk, .bool m.yes] 47)).drew w.heap.size 47 (mcs m A c) from K1.out) hw') rfl)
  refine Hb.call (f := 147) (args := #[.pointer (some ⟨a.jg, 0, none⟩), .agg #[.int .i64 m.kind, .int .i64 m.fr, .int .i64 m.dst, .int .i64 m.boot, .int .i64 m.view, .int .i64 m.last, .int .i64 m.mem, .int .i64 m.pos, .slice A m.es.length c, .int .i64 m.com, .int .i64 m.num, .int .i64 m.clk, .bool m.yes]]) 5 10 rfl ?_ (run_callf Tryz.func147 (by kernel_rfl) (by kernel_rfl) (by simp only [List.map_toArray, List.map_cons, List.map_nil]; rfl))
  refine (jhear_no (w.alloc (.cells #[.int .i64 m.kind, .int .i64 m.fr, .int .i64 m.dst, .int .i64 m.boot, .int .i64 m.view, .int .i64 m.last, .int .i64 m.mem, .int .i64 m.pos, .slice A m.es.length c, .int .i64 m.com, .int .i64 m.num, .int .i64 m.clk, .bool m.yes] 47)).drew a.jg a.FJ p.id p.n p.boot jp m A c R1.out (by have := HV.out; omega) (by have := HM.out; omega) none J1.out.drew (.inr HW.out)).mono ?_
  rintro e w2 ⟨rfl, b2⟩
  have BE := Lib.hid (b0.out.drew.trans (b2.mono b0.out.size))
  refine Hb.back b2 b2.size ?_
  refine Hb.take (v := .bool true) 6 11 rfl ?_ (fun w' hw' => by go_simp; first | done | rfl | omega | exact wrap_in (by omega) (by omega) | exact Int.tmod_eq_emod_of_nonneg (by omega) | exact Int.tdiv_eq_ediv_of_nonneg (by omega) | (simp; omega))
  refine Hb.done ?_
-- END
  go_wp2_with fail
  go_ret
  exact ⟨[], p, none, 0, ⟨rfl, rfl⟩, rfl, Ow.nil _ _ _ _, .same HH.out BE.out⟩

/-- Behind the word. -/
def wrdP (p : Np) (view : Int) (mem : Nat) : Np := { entP p view mem with knows := true, jo := none }

set_option maxHeartbeats 8000000 in
set_option maxRecDepth 100000 in
theorem state_yes {jp : Int} (hj : p.jo = some jp) (mem : Nat) (hm : m.mem = mem) (h128 : mem < 128) (hes : m.es = []) (R : Rd w w.heap.size A c 7 0 (els [])) (hv : 0 ≤ m.view ∧ m.view ≤ 1099511627776) (hw : PJoin.word p.id p.n p.boot jp m = true) (hme : PTeam.has mem p.id = true) :
    Calls Tryz.prog 91 #[.pointer (some ⟨x, 0, none⟩), mv m A c] w (TickPost w x d F (cOne (wrdP p m.view mem) m.fr (ackM (wrdP p m.view mem) 0) (wrdP p m.view mem))) := by
  obtain ⟨a, s0, hr⟩ := h.open
  have HR := Lib.hid hr
  have HH := Lib.hid h
  have b0 := Lib.hid ((Below.refl w.heap.size w).alloc (Nat.le_refl _) (.cells #[.int .i64 m.kind, .int .i64 m.fr, .int .i64 m.dst, .int .i64 m.boot, .int .i64 m.view, .int .i64 m.last, .int .i64 m.mem, .int .i64 m.pos, .slice A m.es.length c, .int .i64 m.com, .int .i64 m.num, .int .i64 m.clk, .bool m.yes] 47))
  have K1 : Hid (Blk (w.alloc (.cells #[.int .i64 m.kind, .int .i64 m.fr, .int .i64 m.dst, .int .i64 m.boot, .int .i64 m.view, .int .i64 m.last, .int .i64 m.mem, .int .i64 m.pos, .slice A m.es.length c, .int .i64 m.com, .int .i64 m.num, .int .i64 m.clk, .bool m.yes] 47)) w.heap.size 47 (mcs m A c)) := Lib.hid (Blk.new w #[.int .i64 m.kind, .int .i64 m.fr, .int .i64 m.dst, .int .i64 m.boot, .int .i64 m.view, .int .i64 m.last, .int .i64 m.mem, .int .i64 m.pos, .slice A m.es.length c, .int .i64 m.com, .int .i64 m.num, .int .i64 m.clk, .bool m.yes] 47)
  have S1 := Lib.hid (s0.alloc (.cells #[.int .i64 m.kind, .int .i64 m.fr, .int .i64 m.dst, .int .i64 m.boot, .int .i64 m.view, .int .i64 m.last, .int .i64 m.mem, .int .i64 m.pos, .slice A m.es.length c, .int .i64 m.com, .int .i64 m.num, .int .i64 m.clk, .bool m.yes] 47))
  have B1 : Hid (Blk (w.alloc (.cells #[.int .i64 m.kind, .int .i64 m.fr, .int .i64 m.dst, .int .i64 m.boot, .int .i64 m.view, .int .i64 m.last, .int .i64 m.mem, .int .i64 m.pos, .slice A m.es.length c, .int .i64 m.com, .int .i64 m.num, .int .i64 m.clk, .bool m.yes] 47)) x 78 (ncs d p a)) := Lib.hid (S1.out.sep.get (i := 0) rfl)
  show Calls _ _ #[_, .agg #[.int .i64 m.kind, .int .i64 m.fr, .int .i64 m.dst, .int .i64 m.boot, .int .i64 m.view, .int .i64 m.last, .int .i64 m.mem, .int .i64 m.pos, .slice A m.es.length c, .int .i64 m.com, .int .i64 m.num, .int .i64 m.clk, .bool m.yes]] _ _
  have hjp := hj
  have J1 : Hid (Jn (w.alloc (.cells #[.int .i64 m.kind, .int .i64 m.fr, .int .i64 m.dst, .int .i64 m.boot, .int .i64 m.view, .int .i64 m.last, .int .i64 m.mem, .int .i64 m.pos, .slice A m.es.length c, .int .i64 m.com, .int .i64 m.num, .int .i64 m.clk, .bool m.yes] 47)) a.jg a.FJ p.id p.n p.boot jp none) := Lib.hid (by have : (pJ p.id p.n p.boot a p.jo).P (w.alloc (.cells #[.int .i64 m.kind, .int .i64 m.fr, .int .i64 m.dst, .int .i64 m.boot, .int .i64 m.view, .int .i64 m.last, .int .i64 m.mem, .int .i64 m.pos, .slice A m.es.length c, .int .i64 m.com, .int .i64 m.num, .int .i64 m.clk, .bool m.yes] 47)) := S1.out.sep.get (i := 5) rfl; rw [hjp] at this; exact this)
  have B1j : Hid (Blk (w.alloc (.cells #[.int .i64 m.kind, .int .i64 m.fr, .int .i64 m.dst, .int .i64 m.boot, .int .i64 m.view, .int .i64 m.last, .int .i64 m.mem, .int .i64 m.pos, .slice A m.es.length c, .int .i64 m.com, .int .i64 m.num, .int .i64 m.clk, .bool m.yes] 47)) x 78 (ncs d { p with jo := some jp } a)) := Lib.hid (by rw [← hjp]; exact B1.out)
  have HJ := Lib.hid hjp
  have R0 := Lib.hid R
  have R1 : Hid (Rd (w.alloc (.cells #[.int .i64 m.kind, .int .i64 m.fr, .int .i64 m.dst, .int .i64 m.boot, .int .i64 m.view, .int .i64 m.last, .int .i64 m.mem, .int .i64 m.pos, .slice A m.es.length c, .int .i64 m.com, .int .i64 m.num, .int .i64 m.clk, .bool m.yes] 47)).drew (w.alloc (.cells #[.int .i64 m.kind, .int .i64 m.fr, .int .i64 m.dst, .int .i64 m.boot, .int .i64 m.view, .int .i64 m.last, .int .i64 m.mem, .int .i64 m.pos, .slice A m.es.length c, .int .i64 m.com, .int .i64 m.num, .int .i64 m.clk, .bool m.yes] 47)).drew.heap.size A c 7 m.es.length (els m.es)) := Lib.hid (by rw [hes]; exact R.zero)
  have HV := Lib.hid hv
  have HM := Lib.hid hm
  have H128 := Lib.hid h128
  have HW := Lib.hid hw
  have HE := Lib.hid hes
  have HME := Lib.hid hme
  have hxj : x ∉ a.FJ := S1.out.sep.two (i := 0) (j := 5) (by omega) rfl (by show some (pJ p.id p.n p.boot a p.jo) = some _; rw [hjp]) x (by simp [pX])
  have hsj : w.heap.size ∉ a.FJ := fun hm => by
    obtain ⟨T, ys, hB, hT⟩ := J1.out.kinds _ hm
    rcases hT with rfl | rfl
    · exact K1.out.ne hB (by decide) rfl
    · exact K1.out.ne hB (by decide) rfl
  have HX := Lib.hid hxj
  have HK := Lib.hid hsj
  clear h hr s0 hj hjp R hv hm hw hes hme hxj hsj h128
  go_enter Tryz.func91, Tryz.ntmps91
  go_wp2_with fail
-- REGION (*curfew/node.Node).hearState 1 nstate1t 2
  refine Hs.begin (a.FJ) ?_
  refine Hs.take (v := .pointer (some ⟨x, 0, none⟩)) 0 5 rfl ?_ (fun _ _ => rfl)
  refine Hs.take (v := .pointer (some ⟨x, 0, none⟩)) 1 6 rfl ?_ (fun w' hw' => by go_simp; first | done | rfl | omega | exact wrap_in (by omega) (by omega) | exact Int.tmod_eq_emod_of_nonneg (by omega) | exact Int.tdiv_eq_ediv_of_nonneg (by omega) | (simp; omega))
  refine Hs.take (v := .pointer (some ⟨x, 14, none⟩)) 2 7 rfl ?_ (fun w' hw' => by go_simp; first | done | rfl | omega | exact wrap_in (by omega) (by omega) | exact Int.tmod_eq_emod_of_nonneg (by omega) | exact Int.tdiv_eq_ediv_of_nonneg (by omega) | (simp; omega))
  refine Hs.take (v := .pointer (some ⟨a.jg, 0, none⟩)) 3 8 rfl ?_ (fun w' hw' => by exact ldJoin (Blk.cell (i := 14) (Blk.touch (show Blk (w.alloc (.cells #[.int .i64 m.kind, .int .i64 m.fr, .int .i64 m.dst, .int .i64 m.boot, .int .i64 m.view, .int .i64 m.last, .int .i64 m.mem, .int .i64 m.pos, .slice A m.es.length c, .int .i64 m.com, .int .i64 m.num, .int .i64 m.clk, .bool m.yes] 47)).drew x 78 (ncs d { p with jo := some jp } a) from B1j.out) hw' HX.out) rfl) rfl)
  refine Hs.take (v := .agg #[.int .i64 m.kind, .int .i64 m.fr, .int .i64 m.dst, .int .i64 m.boot, .int .i64 m.view, .int .i64 m.last, .int .i64 m.mem, .int .i64 m.pos, .slice A m.es.length c, .int .i64 m.com, .int .i64 m.num, .int .i64 m.clk, .bool m.yes]) 4 9 rfl ?_ (fun w' hw' => by exact run_loadM (Blk.touch (show Blk (w.alloc (.cells #[.int .i64 m.kind, .int .i64 m.fr, .int .i64 m.dst, .int .i64 m.boot, .int .i64 m.view, .int .i64 m.last, .int .i64 m.mem, .int .i64 m.pos, .slice A m.es.length c, .int .i64 m.com, .int .i64 m.num, .int .i64 m.clk, .bool m.yes] 47)).drew w.heap.size 47 (mcs m A c) from K1.out) hw' HK.out) rfl)
  refine Hs.call (f := 147) (args := #[.pointer (some ⟨a.jg, 0, none⟩), .agg #[.int .i64 m.kind, .int .i64 m.fr, .int .i64 m.dst, .int .i64 m.boot, .int .i64 m.view, .int .i64 m.last, .int .i64 m.mem, .int .i64 m.pos, .slice A m.es.length c, .int .i64 m.com, .int .i64 m.num, .int .i64 m.clk, .bool m.yes]]) 5 10 rfl ?_ (run_callf Tryz.func147 (by kernel_rfl) (by kernel_rfl) (by simp only [List.map_toArray, List.map_cons, List.map_nil]; rfl))
  refine (jhear_yes (w.alloc (.cells #[.int .i64 m.kind, .int .i64 m.fr, .int .i64 m.dst, .int .i64 m.boot, .int .i64 m.view, .int .i64 m.last, .int .i64 m.mem, .int .i64 m.pos, .slice A m.es.length c, .int .i64 m.com, .int .i64 m.num, .int .i64 m.clk, .bool m.yes] 47)).drew a.jg a.FJ p.id p.n p.boot jp m A c R1.out (by have := HV.out; omega) (by have h1 := HM.out; have h2 := H128.out; omega) J1.out.drew HW.out).mono ?_
  rintro e w2 ⟨rfl, ⟨-, t2⟩⟩
  have S2 := Lib.hid (((show St okN w (w.alloc (.cells #[.int .i64 m.kind, .int .i64 m.fr, .int .i64 m.dst, .int .i64 m.boot, .int .i64 m.view, .int .i64 m.last, .int .i64 m.mem, .int .i64 m.pos, .slice A m.es.length c, .int .i64 m.com, .int .i64 m.num, .int .i64 m.clk, .bool m.yes] 47)).drew F (parts x d { p with jo := some jp } a) by rw [← HJ.out]; exact S1.out.past ((Below.refl _ _).drew)).set 5 rfl noneOk t2 trivial (fun _ hk => by cases hk)).past (Below.refl _ _))
  have B2 := Lib.hid (Blk.touch (show Blk (w.alloc (.cells #[.int .i64 m.kind, .int .i64 m.fr, .int .i64 m.dst, .int .i64 m.boot, .int .i64 m.view, .int .i64 m.last, .int .i64 m.mem, .int .i64 m.pos, .slice A m.es.length c, .int .i64 m.com, .int .i64 m.num, .int .i64 m.clk, .bool m.yes] 47)).drew x 78 (ncs d { p with jo := some jp } a) from B1j.out) t2 HX.out)
  have K2 := Lib.hid (Blk.touch (show Blk (w.alloc (.cells #[.int .i64 m.kind, .int .i64 m.fr, .int .i64 m.dst, .int .i64 m.boot, .int .i64 m.view, .int .i64 m.last, .int .i64 m.mem, .int .i64 m.pos, .slice A m.es.length c, .int .i64 m.com, .int .i64 m.num, .int .i64 m.clk, .bool m.yes] 47)).drew w.heap.size 47 (mcs m A c) from K1.out) t2 HK.out)
  refine Hs.back t2 ?_
  refine Hs.take (v := .bool false) 6 11 rfl ?_ (fun w' hw' => by go_simp; first | done | rfl | omega | exact wrap_in (by omega) (by omega) | exact Int.tmod_eq_emod_of_nonneg (by omega) | exact Int.tdiv_eq_ediv_of_nonneg (by omega) | (simp; omega))
  refine Hs.done ?_
-- END
  have c14 : w2.cell? ⟨x, 14, none⟩ = some (.pointer (some ⟨a.jg, 0, none⟩)) := B2.out.cell rfl
  have c6 : w2.cell? ⟨x, 6, none⟩ = some (.bool p.knows) := B2.out.cell rfl
  have f14 := B2.out.free 14
  have f6 := B2.out.free 6
  have B4 := Lib.hid (show Blk ((w2.setCell ⟨x, 14, none⟩ (.pointer none)).setCell ⟨x, 6, none⟩ (.bool true)) x 78 (ncs d { p with knows := true, jo := none } a) from (B2.out.set 14 (.pointer none)).set 6 (.bool true))
  have T4 : Touch [x] w2 ((w2.setCell ⟨x, 14, none⟩ (.pointer none)).setCell ⟨x, 6, none⟩ (.bool true)) := ((Touch.refl [x] w2).cell (g := x) (by simp) 14 _).cell (g := x) (by simp) 6 _
  have S4 := Lib.hid (S2.out.set 0 rfl (pX_ok x d { p with knows := true, jo := none } a) T4 B4.out (fun k hk => .inl hk))
  have K4 := Lib.hid (K2.out.touch T4 (by rw [List.mem_singleton]; exact K2.out.ne B2.out (by decide)))
  have hr4 : Nr { p with knows := true, jo := none } := ⟨HR.out.n, HR.out.id, HR.out.boot, HR.out.pro, HR.out.clock, HR.out.heard, HR.out.last, HR.out.mem, HR.out.com, HR.out.vo, HR.out.den, HR.out.pf, HR.out.seq⟩
  have W4 := Lib.hid ((show St okN w _ F (parts x d { p with knows := true, jo := none } a) from S4.out).shut hr4)
  clear hr4 T4 S2 B2 K2
  go_wp2_with ((with_reducible show wpList _ _ _ ((⟨some 19, Op.load _ _, _, _, _, _⟩ : Oper) :: _) _ _); go_must (refine wpList_load_row rfl 47 (.tmp 3) rfl w.heap.size rfl 47 #[.int .i64 m.kind, .int .i64 m.fr, .int .i64 m.dst, .int .i64 m.boot, .int .i64 m.view, .int .i64 m.last, .int .i64 m.mem, .int .i64 m.pos, .slice A m.es.length c, .int .i64 m.com, .int .i64 m.num, .int .i64 m.clk, .bool m.yes] (0, 0) _ K4.out Tryz.underlying47 rfl (by kernel_rfl) ?_))
  clear c14 c6 f14 f6
  generalize (w2.setCell ⟨x, 14, none⟩ (.pointer none)).setCell ⟨x, 6, none⟩ (.bool true) = w4 at *
  obtain ⟨⟨F4, n4, hF4⟩, t4⟩ := W4.out
  have N4 := Lib.hid n4
  have HF4 := Lib.hid hF4
  have HT4 := Lib.hid t4
  refine (enter0_c n4 m A c mem HM.out H128.out HV.out HE.out R0.out.zero).mono ?_
  rintro e w5 ⟨rfl, ⟨⟨F5, n5, hF5⟩, t5⟩⟩
  have K5 := Lib.hid (K4.out.touch t5 (n4.off K4.out (by decide)))
  have N5 := Lib.hid (show Nd w5 x d F5 (wrdP p m.view mem) from n5)
  have HF5 := Lib.hid hF5
  have HT5 := Lib.hid t5
  obtain ⟨a5, s5, -⟩ := N5.out.open
  have B5 : Blk w5 x 78 (ncs d (wrdP p m.view mem) a5) := s5.sep.get (i := 0) rfl
  have c8 : w5.cell? ⟨x, 8, none⟩ = some (.int .i64 mem) := B5.cell rfl
  have c0 : w5.cell? ⟨x, 0, none⟩ = some (.int .i64 p.id) := B5.cell rfl
  have hH : ∀ W : World, Calls Tryz.prog 61 #[.int .i64 mem, .int .i64 p.id] W fun e w' => e = .returned (.bool true) ∧ w' = W := fun W => by
    have := tHas_c W mem p.id H128.out
    rw [HME.out] at this
    exact this.mono fun e w' h => ⟨h.1, h.2.symm⟩
  clear n4 hF4 t4 n5 hF5 t5 s5 B5 W4 S4 B4 K4
  go_wp2_with fail
  go_quiet (first | (go_at_call 61; refine Calls.quiet_of_same (hH _)))
  obtain ⟨w6, hw6⟩ : ∃ q, w5.drewN nq = q := ⟨_, rfl⟩
  have b6 := drewN_below w5 nq
  rw [hw6] at b6
  rw [hw6]
  have K6 := Lib.hid (K5.out.past b6)
  have N6 := Lib.hid (N5.out.past b6)
  have B6 := Lib.hid b6
  clear hw6 b6 c8 c0 hH K5
  go_wp2_with ((with_reducible show wpList _ _ _ ((⟨some 32, Op.load _ _, _, _, _, _⟩ : Oper) :: _) _ _); go_must (refine wpList_load_row rfl 47 (.tmp 3) rfl w.heap.size rfl 47 #[.int .i64 m.kind, .int .i64 m.fr, .int .i64 m.dst, .int .i64 m.boot, .int .i64 m.view, .int .i64 m.last, .int .i64 m.mem, .int .i64 m.pos, .slice A m.es.length c, .int .i64 m.com, .int .i64 m.num, .int .i64 m.clk, .bool m.yes] (0, 0) _ K6.out Tryz.underlying47 rfl (by kernel_rfl) ?_))
  refine (ack0_c N6.out m A c 0 rfl).mono ?_
  rintro e w7 h7
  obtain ⟨Q, p', A2, c2, q1, rfl, q3, q4⟩ := TickPost.behind h7 B6.out
  have Q1 := Lib.hid q1
  have Q3 := Lib.hid q3
  have Q4 := Lib.hid q4
  clear h7 q1 q3 q4
  go_wp2_with fail
  go_ret
  exact ⟨Q, p', A2, c2, Q1.out, rfl, Q3.out.down (Nat.le_trans HT4.out.size HT5.out.size), NdW.then HF4.out HT4.out (NdW.then HF5.out HT5.out Q4.out)⟩
end
end Go.Proofs.YtfolifhgmdglaaaGreatDoor

