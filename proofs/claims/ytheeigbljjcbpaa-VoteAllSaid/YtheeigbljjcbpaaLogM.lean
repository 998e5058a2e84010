/- Contracts of the document's Has, Add, Log (of lists of entries). -/
import Derived.Test.YtheeigbljjcbpaaEntB
import Derived.Test.YtheeigbljjcbpaaEntM
import Derived.Test.YtheeigbljjcbpaaEntN
import Derived.Test.YtheeigbljjcbpaaPlainLog
namespace Go.Proofs.Ytheeigbljjcbpaa
open Go.RowKit

set_option maxHeartbeats 4000000 in
set_option maxRecDepth 100000 in
theorem rHas_c (w : World) (B : Nat) (A : Option Addr) (c n : Nat) (l : List Ent) (R : Rd w B A c 7 n (els l)) (e : Ent) :
    Calls Try.prog 52 #[.slice A n c, ev e] w fun x w' => x = .returned (.bool (PLog.has l e)) ∧ Below w.heap.size w w' := by
  have hcap := R.cap
  have hle := R.le
  have hn : n ≤ 9223372036854775807 := by unfold maxLen at hcap; omega
  have HL := Lib.hid R.elen
  have R0 := Lib.hid (R.tight.alloc (.cells #[.int .i64 e.fr, .int .i64 e.boot, .int .i64 e.seq, .int .i64 e.ord, .int .i64 e.lev, .int .i64 e.stamp, .string e.data] 52))
  have b0 := Lib.hid ((Below.refl w.heap.size w).alloc (Nat.le_refl _) (.cells #[.int .i64 e.fr, .int .i64 e.boot, .int .i64 e.seq, .int .i64 e.ord, .int .i64 e.lev, .int .i64 e.stamp, .string e.data] 52))
  have K0 := Lib.hid (Blk.newEnt w 52 e)
  clear R hcap hle
  show Calls _ _ #[_, .agg #[.int .i64 e.fr, .int .i64 e.boot, .int .i64 e.seq, .int .i64 e.ord, .int .i64 e.lev, .int .i64 e.stamp, .string e.data]] _ _
  go_enter Try.func52, Try.ntmps52
  go_wp2_with fail
  generalize (w.alloc (.cells #[.int .i64 e.fr, .int .i64 e.boot, .int .i64 e.seq, .int .i64 e.ord, .int .i64 e.lev, .int .i64 e.stamp, .string e.data] 52)) = w1 at *
  go_loopw [5] (fun s5 wr => ∃ i : Nat, i ≤ n ∧ s5 = .int .i64 i ∧ Hid ((l.take i).any (fun x => PEnt.same x e) = false) ∧ Hid (Below w1.heap.size w1 wr)) (fun s5 _ => n - (intOf s5).toNat)
  case atStart => exact ⟨0, by omega, rfl, Lib.hid rfl, Lib.hid (Below.refl _ _)⟩
  case round =>
    obtain ⟨i, hi, rfl, HP, BL⟩ := hrel
    by_cases hlt : i < n
    · obtain ⟨b, o, y, rfl, hb, hy, -, hr⟩ := (R0.out.tight.below BL.out).entR hlt
      have HY := Lib.hid hy
      have HB := Lib.hid (show b < wr.drew.heap.size from Nat.lt_of_lt_of_le hb BL.out.size)
      have HR := Lib.hid (show wr.drew.rangeAt b (o + i * 7) (ecs y) from hr)
      have K1 := Lib.hid (show Blk wr.drew w.heap.size 52 (ecs e) from (K0.out.below BL.out K0.out.lt).drew)
      have LT := Lib.hid (show w.heap.size < wr.drew.heap.size from K1.out.lt)
      clear hy hb hr
      cases hq : PEnt.same y e
      · have HP' := Lib.hid (any_take (p := fun x => PEnt.same x e) HY.out HP.out hq)
        have HS := Lib.hid hq
        clear hq
        go_wp2_with fail
-- REGION curfew/curfewref12.Has 4 rhas_f 8
        refine Hb.begin ?_
        refine Hb.take (v := .slice (some ⟨b, o, none⟩) n c) 0 12 rfl ?_ (fun _ _ => rfl)
        refine Hb.take (v := .int .i64 (i : Int)) 1 13 rfl ?_ (fun _ _ => rfl)
        refine Hb.take (v := .pointer (some ⟨b, o + i * 7, none⟩)) 2 14 rfl ?_ (fun w' hw' => by go_simp; first | done | rfl | omega | exact wrap_in (by omega) (by omega) | exact Int.tmod_eq_emod_of_nonneg (by omega) | exact Int.tdiv_eq_ediv_of_nonneg (by omega) | (simp; omega))
        refine Hb.take (v := ev y) 3 15 rfl ?_ (fun w' hw' => by exact run_loadE (rangeAt_below HR.out hw' HB.out) rfl)
        refine Hb.take (v := ev e) 4 16 rfl ?_ (fun w' hw' => by exact run_loadE ((K1.out.below hw' LT.out).range) rfl)
        refine Hb.call (f := 50) (args := #[ev y, ev e]) 5 17 rfl ?_ (run_callf Try.func50 (by kernel_rfl) (by kernel_rfl) (by simp only [List.map_toArray, List.map_cons, List.map_nil]; rfl))
        refine (rSame_c wr.drew y e).mono ?_
        rw [HS.out]
        rintro x w3 ⟨rfl, b3⟩
        refine Hb.back b3 (Nat.le_refl _) ?_
        refine Hb.done ?_
-- END
        go_wp2_with fail
        go_roundw
        case rel => exact ⟨i + 1, by omega, by go_num, HP', Lib.hid (BL.out.drew.trans (b3.mono BL.out.size))⟩
        case measure => simp [intOf]; omega
      · have HP' := Lib.hid (show PLog.has l e = true from any_at (p := fun x => PEnt.same x e) HY.out hq)
        have HS := Lib.hid hq
        clear hq
        go_wp2_with fail
-- REGION curfew/curfewref12.Has 4 rhas_t 8
        refine Hb.begin ?_
        refine Hb.take (v := .slice (some ⟨b, o, none⟩) n c) 0 12 rfl ?_ (fun _ _ => rfl)
        refine Hb.take (v := .int .i64 (i : Int)) 1 13 rfl ?_ (fun _ _ => rfl)
        refine Hb.take (v := .pointer (some ⟨b, o + i * 7, none⟩)) 2 14 rfl ?_ (fun w' hw' => by go_simp; first | done | rfl | omega | exact wrap_in (by omega) (by omega) | exact Int.tmod_eq_emod_of_nonneg (by omega) | exact Int.tdiv_eq_ediv_of_nonneg (by omega) | (simp; omega))
        refine Hb.take (v := ev y) 3 15 rfl ?_ (fun w' hw' => by exact run_loadE (rangeAt_below HR.out hw' HB.out) rfl)
        refine Hb.take (v := ev e) 4 16 rfl ?_ (fun w' hw' => by exact run_loadE ((K1.out.below hw' LT.out).range) rfl)
        refine Hb.call (f := 50) (args := #[ev y, ev e]) 5 17 rfl ?_ (run_callf Try.func50 (by kernel_rfl) (by kernel_rfl) (by simp only [List.map_toArray, List.map_cons, List.map_nil]; rfl))
        refine (rSame_c wr.drew y e).mono ?_
        rw [HS.out]
        rintro x w3 ⟨rfl, b3⟩
        refine Hb.back b3 (Nat.le_refl _) ?_
        refine Hb.done ?_
-- END
        go_wp2_with fail
        go_ret
        exact ⟨by rw [HP'.out]; rfl, b0.out.trans ((BL.out.drew.trans (b3.mono BL.out.size)).mono b0.out.size)⟩
    · obtain rfl : i = n := by omega
      have HF := Lib.hid (show PLog.has l e = false by have := HP.out; rwa [List.take_of_length_le (by rw [HL.out]; omega)] at this)
      go_wp2_with fail
      go_ret
      exact ⟨by rw [HF.out]; rfl, b0.out.trans (BL.out.mono b0.out.size)⟩

set_option maxHeartbeats 8000000 in
set_option maxRecDepth 100000 in
/-- The document's Add, where it can't be added. -/
theorem rAdd_no (w : World) (B : Nat) (A : Option Addr) (c n : Nat) (l : List Ent) (R : Rd w B A c 7 n (els l)) (e : Ent) (hc : PLog.can l e = false) :
    Calls Try.prog 40 #[.slice A n c, ev e] w fun x w' => x = .returned (.tuple #[.slice A n c, .bool false]) ∧ Below w.heap.size w w' := by
  have hcap := R.cap
  have hle := R.le
  have hn : n ≤ 9223372036854775807 := by unfold maxLen at hcap; omega
  have HL := Lib.hid R.elen
  have R1 := Lib.hid (show Rd (w.alloc (.cells #[.int .i64 e.fr, .int .i64 e.boot, .int .i64 e.seq, .int .i64 e.ord, .int .i64 e.lev, .int .i64 e.stamp, .string e.data] 52)).drew w.heap.size A c 7 n (els l) from R.tight.alloc (.cells #[.int .i64 e.fr, .int .i64 e.boot, .int .i64 e.seq, .int .i64 e.ord, .int .i64 e.lev, .int .i64 e.stamp, .string e.data] 52))
  have BT := Lib.hid (show Below w.heap.size w (w.alloc (.cells #[.int .i64 e.fr, .int .i64 e.boot, .int .i64 e.seq, .int .i64 e.ord, .int .i64 e.lev, .int .i64 e.stamp, .string e.data] 52)).drew from ((Below.refl w.heap.size w).alloc (Nat.le_refl _) (.cells #[.int .i64 e.fr, .int .i64 e.boot, .int .i64 e.seq, .int .i64 e.ord, .int .i64 e.lev, .int .i64 e.stamp, .string e.data] 52)).drew)
  have K := Lib.hid (show Blk (w.alloc (.cells #[.int .i64 e.fr, .int .i64 e.boot, .int .i64 e.seq, .int .i64 e.ord, .int .i64 e.lev, .int .i64 e.stamp, .string e.data] 52)).drew w.heap.size 52 (ecs e) from Blk.newEnt w 52 e)
  have LT := Lib.hid K.out.lt
  cases hm : PEnt.may e
  · have HM := Lib.hid hm
    clear hc hm R hcap hle
    show Calls _ _ #[_, .agg #[.int .i64 e.fr, .int .i64 e.boot, .int .i64 e.seq, .int .i64 e.ord, .int .i64 e.lev, .int .i64 e.stamp, .string e.data]] _ _
    go_enter Try.func40, Try.ntmps40
    go_wp2_with fail
    generalize (w.alloc (.cells #[.int .i64 e.fr, .int .i64 e.boot, .int .i64 e.seq, .int .i64 e.ord, .int .i64 e.lev, .int .i64 e.stamp, .string e.data] 52)) = w1 at *
-- REGION curfew/curfewref12.Add 1 radd_may 4
    refine Hb.begin ?_
    refine Hb.take (v := ev e) 0 6 rfl ?_ (fun w' hw' => by exact run_loadE ((K.out.below hw' LT.out).range) rfl)
    refine Hb.call (f := 51) (args := #[ev e]) 1 7 rfl ?_ (run_callf Try.func51 (by kernel_rfl) (by kernel_rfl) (by simp only [List.map_toArray, List.map_cons, List.map_nil]; rfl))
    refine (rMay_c _ e).mono ?_
    rw [HM.out]
    rintro x w2 ⟨rfl, b2⟩
    have K := Lib.hid (K.out.below b2 LT.out)
    have R1 := Lib.hid (R1.out.below (b2.mono (Nat.le_of_lt LT.out)))
    have BT := Lib.hid (BT.out.trans (b2.mono (Nat.le_of_lt LT.out)))
    refine Hb.back b2 (Nat.le_refl _) ?_
    refine Hb.take (v := .bool true) 2 8 rfl ?_ (fun w' hw' => by go_simp; first | done | rfl | omega | exact wrap_in (by omega) (by omega) | exact Int.tmod_eq_emod_of_nonneg (by omega) | exact Int.tdiv_eq_ediv_of_nonneg (by omega) | (simp; omega))
    refine Hb.take (v := .bool true) 3 9 rfl ?_ (fun _ _ => rfl)
    refine Hb.pass 4 10 rfl ?_
    refine Hb.pass 5 11 rfl ?_
    refine Hb.pass 6 12 rfl ?_
    refine Hb.take (v := Value.bool true) 7 13 rfl ?_ (fun _ _ => rfl)
    refine Hb.take (v := Value.bool true) 8 14 rfl ?_ (fun _ _ => rfl)
    refine Hb.pass 9 15 rfl ?_
    refine Hb.pass 10 16 rfl ?_
    refine Hb.pass 11 17 rfl ?_
    refine Hb.take (v := Value.bool true) 12 18 rfl ?_ (fun _ _ => rfl)
    refine Hb.take (v := Value.bool true) 13 19 rfl ?_ (fun _ _ => rfl)
    refine Hb.pass 14 20 rfl ?_
    refine Hb.pass 15 21 rfl ?_
    refine Hb.pass 16 22 rfl ?_
    refine Hb.pass 17 23 rfl ?_
    refine Hb.pass 18 24 rfl ?_
    refine Hb.pass 19 25 rfl ?_
    refine Hb.pass 20 26 rfl ?_
    refine Hb.pass 21 27 rfl ?_
    refine Hb.pass 22 28 rfl ?_
    refine Hb.pass 23 29 rfl ?_
    refine Hb.pass 24 30 rfl ?_
    refine Hb.pass 25 31 rfl ?_
    refine Hb.pass 26 32 rfl ?_
    refine Hb.pass 27 33 rfl ?_
    refine Hb.pass 28 34 rfl ?_
    refine Hb.take (v := Value.bool true) 29 35 rfl ?_ (fun _ _ => rfl)
    refine Hb.done ?_
-- END
    go_wp2_with fail
    go_ret2
    exact ⟨rfl, BT.out⟩
  cases hh : PLog.has l e
  · by_cases hf : 60 ≤ n
    · have HM := Lib.hid hm
      have HH := Lib.hid hh
      have jf : (60 : Int) ≤ (n : Int) := by omega
      clear hc hm hh R hcap hle
      show Calls _ _ #[_, .agg #[.int .i64 e.fr, .int .i64 e.boot, .int .i64 e.seq, .int .i64 e.ord, .int .i64 e.lev, .int .i64 e.stamp, .string e.data]] _ _
      go_enter Try.func40, Try.ntmps40
      go_wp2_with fail
      generalize (w.alloc (.cells #[.int .i64 e.fr, .int .i64 e.boot, .int .i64 e.seq, .int .i64 e.ord, .int .i64 e.lev, .int .i64 e.stamp, .string e.data] 52)) = w1 at *
-- REGION curfew/curfewref12.Add 1 radd_full 6
      refine Hb.begin ?_
      refine Hb.take (v := ev e) 0 6 rfl ?_ (fun w' hw' => by exact run_loadE ((K.out.below hw' LT.out).range) rfl)
      refine Hb.call (f := 51) (args := #[ev e]) 1 7 rfl ?_ (run_callf Try.func51 (by kernel_rfl) (by kernel_rfl) (by simp only [List.map_toArray, List.map_cons, List.map_nil]; rfl))
      refine (rMay_c _ e).mono ?_
      rw [HM.out]
      rintro x w2 ⟨rfl, b2⟩
      have K := Lib.hid (K.out.below b2 LT.out)
      have R1 := Lib.hid (R1.out.below (b2.mono (Nat.le_of_lt LT.out)))
      have BT := Lib.hid (BT.out.trans (b2.mono (Nat.le_of_lt LT.out)))
      refine Hb.back b2 (Nat.le_refl _) ?_
      refine Hb.take (v := .bool false) 2 8 rfl ?_ (fun w' hw' => by go_simp; first | done | rfl | omega | exact wrap_in (by omega) (by omega) | exact Int.tmod_eq_emod_of_nonneg (by omega) | exact Int.tdiv_eq_ediv_of_nonneg (by omega) | (simp; omega))
      refine Hb.take (v := .bool false) 3 9 rfl ?_ (fun _ _ => rfl)
      refine Hb.take (v := .slice A n c) 4 10 rfl ?_ (fun _ _ => rfl)
      refine Hb.take (v := ev e) 5 11 rfl ?_ (fun w' hw' => by exact run_loadE ((K.out.below hw' LT.out).range) rfl)
      refine Hb.call (f := 52) (args := #[.slice A n c, ev e]) 6 12 rfl ?_ (run_callf Try.func52 (by kernel_rfl) (by kernel_rfl) (by simp only [List.map_toArray, List.map_cons, List.map_nil]; rfl))
      refine (rHas_c _ _ A c n l R1.out.tight e).mono ?_
      rw [HH.out]
      rintro x w3 ⟨rfl, b3⟩
      have b3 := b3.mono (show w1.drew.heap.size ≤ w2.heap.size from b2.size)
      have K := Lib.hid (K.out.below b3 LT.out)
      have R1 := Lib.hid (R1.out.below (b3.mono (Nat.le_of_lt LT.out)))
      have BT := Lib.hid (BT.out.trans (b3.mono (Nat.le_of_lt LT.out)))
      refine Hb.back b3 (Nat.le_refl _) ?_
      refine Hb.take (v := .bool false) 7 13 rfl ?_ (fun _ _ => rfl)
      refine Hb.take (v := .bool false) 8 14 rfl ?_ (fun _ _ => rfl)
      refine Hb.take (v := .slice A n c) 9 15 rfl ?_ (fun _ _ => rfl)
      refine Hb.take (v := .int .i64 (n : Int)) 10 16 rfl ?_ (fun w' hw' => by go_simp; first | done | rfl | omega | exact wrap_in (by omega) (by omega) | exact Int.tmod_eq_emod_of_nonneg (by omega) | exact Int.tdiv_eq_ediv_of_nonneg (by omega) | (simp; omega))
      refine Hb.take (v := .bool true) 11 17 rfl ?_ (fun w' hw' => by go_simp; first | done | rfl | omega | exact wrap_in (by omega) (by omega) | exact Int.tmod_eq_emod_of_nonneg (by omega) | exact Int.tdiv_eq_ediv_of_nonneg (by omega) | (simp; omega))
      refine Hb.take (v := .bool true) 12 18 rfl ?_ (fun _ _ => rfl)
      refine Hb.take (v := .bool true) 13 19 rfl ?_ (fun _ _ => rfl)
      refine Hb.pass 14 20 rfl ?_
      refine Hb.pass 15 21 rfl ?_
      refine Hb.pass 16 22 rfl ?_
      refine Hb.pass 17 23 rfl ?_
      refine Hb.pass 18 24 rfl ?_
      refine Hb.pass 19 25 rfl ?_
      refine Hb.pass 20 26 rfl ?_
      refine Hb.pass 21 27 rfl ?_
      refine Hb.pass 22 28 rfl ?_
      refine Hb.pass 23 29 rfl ?_
      refine Hb.pass 24 30 rfl ?_
      refine Hb.pass 25 31 rfl ?_
      refine Hb.pass 26 32 rfl ?_
      refine Hb.pass 27 33 rfl ?_
      refine Hb.pass 28 34 rfl ?_
      refine Hb.take (v := Value.bool true) 29 35 rfl ?_ (fun _ _ => rfl)
      refine Hb.done ?_
-- END
      go_wp2_with fail
      go_ret2
      exact ⟨rfl, BT.out⟩
    · have he : PLog.early l e = true := by
        have h60 : l.length < 60 := by rw [HL.out]; omega
        have := hc
        unfold PLog.can at this
        rw [hm, hh, decide_eq_true h60] at this
        simpa using this
      obtain ⟨i, y, hy, hil, hst⟩ : ∃ i y, l[i]? = some y ∧ n = i + 1 ∧ e.stamp < y.stamp := by
        unfold PLog.early at he
        rw [List.getLast?_eq_getElem?] at he
        cases hq : l[l.length - 1]? with
        | none => rw [hq] at he; cases he
        | some y =>
          rw [hq] at he
          have := (List.getElem?_eq_some_iff.1 hq).1
          exact ⟨l.length - 1, y, hq, by have := HL.out; omega, of_decide_eq_true he⟩
      obtain ⟨b, o, y', hA, hb, hy', -, -⟩ := R.tight.entR (i := i) (by omega)
      have HB := Lib.hid (show b < (w.alloc (.cells #[.int .i64 e.fr, .int .i64 e.boot, .int .i64 e.seq, .int .i64 e.ord, .int .i64 e.lev, .int .i64 e.stamp, .string e.data] 52)).drew.heap.size from Nat.lt_of_lt_of_le hb BT.out.size)
      have HY := Lib.hid hy
      have HM := Lib.hid hm
      have HH := Lib.hid hh
      subst hA
      have jf : ¬ (60 : Int) ≤ (n : Int) := by omega
      have jp : (0 : Int) < (n : Int) := by omega
      have ji : ((n : Int) - 1) = (i : Int) := by omega
      clear hc hm hh hf he hb hy hy' R hcap hle hil
      show Calls _ _ #[_, .agg #[.int .i64 e.fr, .int .i64 e.boot, .int .i64 e.seq, .int .i64 e.ord, .int .i64 e.lev, .int .i64 e.stamp, .string e.data]] _ _
      go_enter Try.func40, Try.ntmps40
      go_wp2_with fail
      generalize (w.alloc (.cells #[.int .i64 e.fr, .int .i64 e.boot, .int .i64 e.seq, .int .i64 e.ord, .int .i64 e.lev, .int .i64 e.stamp, .string e.data] 52)) = w1 at *
-- REGION curfew/curfewref12.Add 1 radd_early 6
      refine Hb.begin ?_
      refine Hb.take (v := ev e) 0 6 rfl ?_ (fun w' hw' => by exact run_loadE ((K.out.below hw' LT.out).range) rfl)
      refine Hb.call (f := 51) (args := #[ev e]) 1 7 rfl ?_ (run_callf Try.func51 (by kernel_rfl) (by kernel_rfl) (by simp only [List.map_toArray, List.map_cons, List.map_nil]; rfl))
      refine (rMay_c _ e).mono ?_
      rw [HM.out]
      rintro x w2 ⟨rfl, b2⟩
      have K := Lib.hid (K.out.below b2 LT.out)
      have R1 := Lib.hid (R1.out.below (b2.mono (Nat.le_of_lt LT.out)))
      have BT := Lib.hid (BT.out.trans (b2.mono (Nat.le_of_lt LT.out)))
      refine Hb.back b2 (Nat.le_refl _) ?_
      refine Hb.take (v := .bool false) 2 8 rfl ?_ (fun w' hw' => by go_simp; first | done | rfl | omega | exact wrap_in (by omega) (by omega) | exact Int.tmod_eq_emod_of_nonneg (by omega) | exact Int.tdiv_eq_ediv_of_nonneg (by omega) | (simp; omega))
      refine Hb.take (v := .bool false) 3 9 rfl ?_ (fun _ _ => rfl)
      refine Hb.take (v := .slice (some ⟨b, o, none⟩) n c) 4 10 rfl ?_ (fun _ _ => rfl)
      refine Hb.take (v := ev e) 5 11 rfl ?_ (fun w' hw' => by exact run_loadE ((K.out.below hw' LT.out).range) rfl)
      refine Hb.call (f := 52) (args := #[.slice (some ⟨b, o, none⟩) n c, ev e]) 6 12 rfl ?_ (run_callf Try.func52 (by kernel_rfl) (by kernel_rfl) (by simp only [List.map_toArray, List.map_cons, List.map_nil]; rfl))
      refine (rHas_c _ _ (some ⟨b, o, none⟩) c n l R1.out.tight e).mono ?_
      rw [HH.out]
      rintro x w3 ⟨rfl, b3⟩
      have b3 := b3.mono (show w1.drew.heap.size ≤ w2.heap.size from b2.size)
      have K := Lib.hid (K.out.below b3 LT.out)
      have R1 := Lib.hid (R1.out.below (b3.mono (Nat.le_of_lt LT.out)))
      have BT := Lib.hid (BT.out.trans (b3.mono (Nat.le_of_lt LT.out)))
      refine Hb.back b3 (Nat.le_refl _) ?_
      refine Hb.take (v := .bool false) 7 13 rfl ?_ (fun _ _ => rfl)
      refine Hb.take (v := .bool false) 8 14 rfl ?_ (fun _ _ => rfl)
      refine Hb.take (v := .slice (some ⟨b, o, none⟩) n c) 9 15 rfl ?_ (fun _ _ => rfl)
      refine Hb.take (v := .int .i64 (n : Int)) 10 16 rfl ?_ (fun w' hw' => by go_simp; first | done | rfl | omega | exact wrap_in (by omega) (by omega) | exact Int.tmod_eq_emod_of_nonneg (by omega) | exact Int.tdiv_eq_ediv_of_nonneg (by omega) | (simp; omega))
      refine Hb.take (v := .bool false) 11 17 rfl ?_ (fun w' hw' => by go_simp; first | done | rfl | omega | exact wrap_in (by omega) (by omega) | exact Int.tmod_eq_emod_of_nonneg (by omega) | exact Int.tdiv_eq_ediv_of_nonneg (by omega) | (simp; omega))
      refine Hb.take (v := .bool false) 12 18 rfl ?_ (fun _ _ => rfl)
      refine Hb.take (v := .bool false) 13 19 rfl ?_ (fun _ _ => rfl)
      refine Hb.take (v := .slice (some ⟨b, o, none⟩) n c) 14 20 rfl ?_ (fun _ _ => rfl)
      refine Hb.take (v := .int .i64 (n : Int)) 15 21 rfl ?_ (fun w' hw' => by go_simp; first | done | rfl | omega | exact wrap_in (by omega) (by omega) | exact Int.tmod_eq_emod_of_nonneg (by omega) | exact Int.tdiv_eq_ediv_of_nonneg (by omega) | (simp; omega))
      refine Hb.take (v := .bool true) 16 22 rfl ?_ (fun w' hw' => by go_simp; first | done | rfl | omega | exact wrap_in (by omega) (by omega) | exact Int.tmod_eq_emod_of_nonneg (by omega) | exact Int.tdiv_eq_ediv_of_nonneg (by omega) | (simp; omega))
      refine Hb.take (v := .bool true) 17 23 rfl ?_ (fun _ _ => rfl)
      refine Hb.take (v := .pointer (some ⟨w.heap.size, 5, none⟩)) 18 24 rfl ?_ (fun w' hw' => by go_simp; first | done | rfl | omega | exact wrap_in (by omega) (by omega) | exact Int.tmod_eq_emod_of_nonneg (by omega) | exact Int.tdiv_eq_ediv_of_nonneg (by omega) | (simp; omega))
      refine Hb.take (v := .int .i64 e.stamp) 19 25 rfl ?_ (fun w' hw' => by exact run_loadI ((hw'.cell (p := ⟨w.heap.size, 5, none⟩) LT.out).trans (K.out.cell (i := 5) rfl)) rfl)
      refine Hb.take (v := .slice (some ⟨b, o, none⟩) n c) 20 26 rfl ?_ (fun _ _ => rfl)
      refine Hb.take (v := .slice (some ⟨b, o, none⟩) n c) 21 27 rfl ?_ (fun _ _ => rfl)
      refine Hb.take (v := .int .i64 (n : Int)) 22 28 rfl ?_ (fun w' hw' => by go_simp; first | done | rfl | omega | exact wrap_in (by omega) (by omega) | exact Int.tmod_eq_emod_of_nonneg (by omega) | exact Int.tdiv_eq_ediv_of_nonneg (by omega) | (simp; omega))
      refine Hb.take (v := .int .i64 (i : Int)) 23 29 rfl ?_ (fun w' hw' => by go_simp; first | done | rfl | omega | exact wrap_in (by omega) (by omega) | exact Int.tmod_eq_emod_of_nonneg (by omega) | exact Int.tdiv_eq_ediv_of_nonneg (by omega) | (simp; omega))
      refine Hb.take (v := .pointer (some ⟨b, o + i * 7, none⟩)) 24 30 rfl ?_ (fun w' hw' => by go_simp; first | done | rfl | omega | exact wrap_in (by omega) (by omega) | exact Int.tmod_eq_emod_of_nonneg (by omega) | exact Int.tdiv_eq_ediv_of_nonneg (by omega) | (simp; omega))
      refine Hb.take (v := .pointer (some ⟨b, o + i * 7 + 5, none⟩)) 25 31 rfl ?_ (fun w' hw' => by go_simp; first | done | rfl | omega | exact wrap_in (by omega) (by omega) | exact Int.tmod_eq_emod_of_nonneg (by omega) | exact Int.tdiv_eq_ediv_of_nonneg (by omega) | (simp; omega))
      refine Hb.take (v := .int .i64 y.stamp) 26 32 rfl ?_ (fun w' hw' => by exact run_loadI ((hw'.cell (p := ⟨b, o + i * 7 + 5, none⟩) HB.out).trans (range_stamp (R1.out.rangeOf rfl HY.out))) rfl)
      refine Hb.take (v := .bool true) 27 33 rfl ?_ (fun w' hw' => by go_simp; first | done | rfl | omega | exact wrap_in (by omega) (by omega) | exact Int.tmod_eq_emod_of_nonneg (by omega) | exact Int.tdiv_eq_ediv_of_nonneg (by omega) | (simp; omega))
      refine Hb.take (v := .bool true) 28 34 rfl ?_ (fun _ _ => rfl)
      refine Hb.take (v := .bool true) 29 35 rfl ?_ (fun _ _ => rfl)
      refine Hb.done ?_
-- END
      go_wp2_with fail
      go_ret2
      exact ⟨rfl, BT.out⟩
  · have HM := Lib.hid hm
    have HH := Lib.hid hh
    clear hc hm hh R hcap hle
    show Calls _ _ #[_, .agg #[.int .i64 e.fr, .int .i64 e.boot, .int .i64 e.seq, .int .i64 e.ord, .int .i64 e.lev, .int .i64 e.stamp, .string e.data]] _ _
    go_enter Try.func40, Try.ntmps40
    go_wp2_with fail
    generalize (w.alloc (.cells #[.int .i64 e.fr, .int .i64 e.boot, .int .i64 e.seq, .int .i64 e.ord, .int .i64 e.lev, .int .i64 e.stamp, .string e.data] 52)) = w1 at *
-- REGION curfew/curfewref12.Add 1 radd_has 4
    refine Hb.begin ?_
    refine Hb.take (v := ev e) 0 6 rfl ?_ (fun w' hw' => by exact run_loadE ((K.out.below hw' LT.out).range) rfl)
    refine Hb.call (f := 51) (args := #[ev e]) 1 7 rfl ?_ (run_callf Try.func51 (by kernel_rfl) (by kernel_rfl) (by simp only [List.map_toArray, List.map_cons, List.map_nil]; rfl))
    refine (rMay_c _ e).mono ?_
    rw [HM.out]
    rintro x w2 ⟨rfl, b2⟩
    have K := Lib.hid (K.out.below b2 LT.out)
    have R1 := Lib.hid (R1.out.below (b2.mono (Nat.le_of_lt LT.out)))
    have BT := Lib.hid (BT.out.trans (b2.mono (Nat.le_of_lt LT.out)))
    refine Hb.back b2 (Nat.le_refl _) ?_
    refine Hb.take (v := .bool false) 2 8 rfl ?_ (fun w' hw' => by go_simp; first | done | rfl | omega | exact wrap_in (by omega) (by omega) | exact Int.tmod_eq_emod_of_nonneg (by omega) | exact Int.tdiv_eq_ediv_of_nonneg (by omega) | (simp; omega))
    refine Hb.take (v := .bool false) 3 9 rfl ?_ (fun _ _ => rfl)
    refine Hb.take (v := .slice A n c) 4 10 rfl ?_ (fun _ _ => rfl)
    refine Hb.take (v := ev e) 5 11 rfl ?_ (fun w' hw' => by exact run_loadE ((K.out.below hw' LT.out).range) rfl)
    refine Hb.call (f := 52) (args := #[.slice A n c, ev e]) 6 12 rfl ?_ (run_callf Try.func52 (by kernel_rfl) (by kernel_rfl) (by simp only [List.map_toArray, List.map_cons, List.map_nil]; rfl))
    refine (rHas_c _ _ A c n l R1.out.tight e).mono ?_
    rw [HH.out]
    rintro x w3 ⟨rfl, b3⟩
    have b3 := b3.mono (show w1.drew.heap.size ≤ w2.heap.size from b2.size)
    have K := Lib.hid (K.out.below b3 LT.out)
    have R1 := Lib.hid (R1.out.below (b3.mono (Nat.le_of_lt LT.out)))
    have BT := Lib.hid (BT.out.trans (b3.mono (Nat.le_of_lt LT.out)))
    refine Hb.back b3 (Nat.le_refl _) ?_
    refine Hb.take (v := .bool true) 7 13 rfl ?_ (fun _ _ => rfl)
    refine Hb.take (v := .bool true) 8 14 rfl ?_ (fun _ _ => rfl)
    refine Hb.pass 9 15 rfl ?_
    refine Hb.pass 10 16 rfl ?_
    refine Hb.pass 11 17 rfl ?_
    refine Hb.take (v := Value.bool true) 12 18 rfl ?_ (fun _ _ => rfl)
    refine Hb.take (v := Value.bool true) 13 19 rfl ?_ (fun _ _ => rfl)
    refine Hb.pass 14 20 rfl ?_
    refine Hb.pass 15 21 rfl ?_
    refine Hb.pass 16 22 rfl ?_
    refine Hb.pass 17 23 rfl ?_
    refine Hb.pass 18 24 rfl ?_
    refine Hb.pass 19 25 rfl ?_
    refine Hb.pass 20 26 rfl ?_
    refine Hb.pass 21 27 rfl ?_
    refine Hb.pass 22 28 rfl ?_
    refine Hb.pass 23 29 rfl ?_
    refine Hb.pass 24 30 rfl ?_
    refine Hb.pass 25 31 rfl ?_
    refine Hb.pass 26 32 rfl ?_
    refine Hb.pass 27 33 rfl ?_
    refine Hb.pass 28 34 rfl ?_
    refine Hb.take (v := Value.bool true) 29 35 rfl ?_ (fun _ _ => rfl)
    refine Hb.done ?_
-- END
    go_wp2_with fail
    go_ret2
    exact ⟨rfl, BT.out⟩

set_option maxHeartbeats 8000000 in
set_option maxRecDepth 100000 in
/-- The document's Add, where it can. -/
theorem rAdd_yes (w : World) (B : Nat) (A : Option Addr) (c n : Nat) (l : List Ent) (R : Rd w B A c 7 n (els l)) (e : Ent) (hc : PLog.can l e = true) :
    Calls Try.prog 40 #[.slice A n c, ev e] w fun x w' => ∃ A' c', x = .returned (.tuple #[.slice A' (n + 1) c', .bool true]) ∧ w'.ownsRow w.heap.size 52 7 (.slice A' (n + 1) c') (n + 1) (els (l ++ [e])) ∧ Below w.heap.size w w' := by
  have HL := Lib.hid R.elen
  have R1 := Lib.hid (show Rd (w.alloc (.cells #[.int .i64 e.fr, .int .i64 e.boot, .int .i64 e.seq, .int .i64 e.ord, .int .i64 e.lev, .int .i64 e.stamp, .string e.data] 52)).drew w.heap.size A c 7 n (els l) from R.tight.alloc (.cells #[.int .i64 e.fr, .int .i64 e.boot, .int .i64 e.seq, .int .i64 e.ord, .int .i64 e.lev, .int .i64 e.stamp, .string e.data] 52))
  have BT := Lib.hid (show Below w.heap.size w (w.alloc (.cells #[.int .i64 e.fr, .int .i64 e.boot, .int .i64 e.seq, .int .i64 e.ord, .int .i64 e.lev, .int .i64 e.stamp, .string e.data] 52)).drew from ((Below.refl w.heap.size w).alloc (Nat.le_refl _) (.cells #[.int .i64 e.fr, .int .i64 e.boot, .int .i64 e.seq, .int .i64 e.ord, .int .i64 e.lev, .int .i64 e.stamp, .string e.data] 52)).drew)
  have K := Lib.hid (show Blk (w.alloc (.cells #[.int .i64 e.fr, .int .i64 e.boot, .int .i64 e.seq, .int .i64 e.ord, .int .i64 e.lev, .int .i64 e.stamp, .string e.data] 52)).drew w.heap.size 52 (ecs e) from Blk.newEnt w 52 e)
  have LT := Lib.hid K.out.lt
  have hq := hc
  simp only [PLog.can, Bool.and_eq_true, Bool.not_eq_true', decide_eq_true_eq] at hq
  obtain ⟨⟨⟨hm, hf⟩, he⟩, hh⟩ := hq
  rw [HL.out] at hf
  have HM := Lib.hid hm
  have HH := Lib.hid hh
  have jf : ¬ (60 : Int) ≤ (n : Int) := by omega
  have hn60 : n < 60 := hf
  by_cases hz : n = 0
  · have jp : ¬ (0 : Int) < (n : Int) := by omega
    clear hc hm hh he R hz hf
    show Calls _ _ #[_, .agg #[.int .i64 e.fr, .int .i64 e.boot, .int .i64 e.seq, .int .i64 e.ord, .int .i64 e.lev, .int .i64 e.stamp, .string e.data]] _ _
    go_enter Try.func40, Try.ntmps40
    go_wp2_with fail
    generalize (w.alloc (.cells #[.int .i64 e.fr, .int .i64 e.boot, .int .i64 e.seq, .int .i64 e.ord, .int .i64 e.lev, .int .i64 e.stamp, .string e.data] 52)) = w1 at *
-- REGION curfew/curfewref12.Add 1 radd_zero 4
    refine Hb.begin ?_
    refine Hb.take (v := ev e) 0 6 rfl ?_ (fun w' hw' => by exact run_loadE ((K.out.below hw' LT.out).range) rfl)
    refine Hb.call (f := 51) (args := #[ev e]) 1 7 rfl ?_ (run_callf Try.func51 (by kernel_rfl) (by kernel_rfl) (by simp only [List.map_toArray, List.map_cons, List.map_nil]; rfl))
    refine (rMay_c _ e).mono ?_
    rw [HM.out]
    rintro x w2 ⟨rfl, b2⟩
    have K := Lib.hid (K.out.below b2 LT.out)
    have R1 := Lib.hid (R1.out.below (b2.mono (Nat.le_of_lt LT.out)))
    have BT := Lib.hid (BT.out.trans (b2.mono (Nat.le_of_lt LT.out)))
    refine Hb.back b2 (Nat.le_refl _) ?_
    refine Hb.take (v := .bool false) 2 8 rfl ?_ (fun w' hw' => by go_simp; first | done | rfl | omega | exact wrap_in (by omega) (by omega) | exact Int.tmod_eq_emod_of_nonneg (by omega) | exact Int.tdiv_eq_ediv_of_nonneg (by omega) | (simp; omega))
    refine Hb.take (v := .bool false) 3 9 rfl ?_ (fun _ _ => rfl)
    refine Hb.take (v := .slice A n c) 4 10 rfl ?_ (fun _ _ => rfl)
    refine Hb.take (v := ev e) 5 11 rfl ?_ (fun w' hw' => by exact run_loadE ((K.out.below hw' LT.out).range) rfl)
    refine Hb.call (f := 52) (args := #[.slice A n c, ev e]) 6 12 rfl ?_ (run_callf Try.func52 (by kernel_rfl) (by kernel_rfl) (by simp only [List.map_toArray, List.map_cons, List.map_nil]; rfl))
    refine (rHas_c _ _ A c n l R1.out.tight e).mono ?_
    rw [HH.out]
    rintro x w3 ⟨rfl, b3⟩
    have b3 := b3.mono (show w1.drew.heap.size ≤ w2.heap.size from b2.size)
    have K := Lib.hid (K.out.below b3 LT.out)
    have R1 := Lib.hid (R1.out.below (b3.mono (Nat.le_of_lt LT.out)))
    have BT := Lib.hid (BT.out.trans (b3.mono (Nat.le_of_lt LT.out)))
    refine Hb.back b3 (Nat.le_refl _) ?_
    refine Hb.take (v := .bool false) 7 13 rfl ?_ (fun _ _ => rfl)
    refine Hb.take (v := .bool false) 8 14 rfl ?_ (fun _ _ => rfl)
    refine Hb.take (v := .slice A n c) 9 15 rfl ?_ (fun _ _ => rfl)
    refine Hb.take (v := .int .i64 (n : Int)) 10 16 rfl ?_ (fun w' hw' => by go_simp; first | done | rfl | omega | exact wrap_in (by omega) (by omega) | exact Int.tmod_eq_emod_of_nonneg (by omega) | exact Int.tdiv_eq_ediv_of_nonneg (by omega) | (simp; omega))
    refine Hb.take (v := .bool false) 11 17 rfl ?_ (fun w' hw' => by go_simp; first | done | rfl | omega | exact wrap_in (by omega) (by omega) | exact Int.tmod_eq_emod_of_nonneg (by omega) | exact Int.tdiv_eq_ediv_of_nonneg (by omega) | (simp; omega))
    refine Hb.take (v := .bool false) 12 18 rfl ?_ (fun _ _ => rfl)
    refine Hb.take (v := .bool false) 13 19 rfl ?_ (fun _ _ => rfl)
    refine Hb.take (v := .slice A n c) 14 20 rfl ?_ (fun _ _ => rfl)
    refine Hb.take (v := .int .i64 (n : Int)) 15 21 rfl ?_ (fun w' hw' => by go_simp; first | done | rfl | omega | exact wrap_in (by omega) (by omega) | exact Int.tmod_eq_emod_of_nonneg (by omega) | exact Int.tdiv_eq_ediv_of_nonneg (by omega) | (simp; omega))
    refine Hb.take (v := .bool false) 16 22 rfl ?_ (fun w' hw' => by go_simp; first | done | rfl | omega | exact wrap_in (by omega) (by omega) | exact Int.tmod_eq_emod_of_nonneg (by omega) | exact Int.tdiv_eq_ediv_of_nonneg (by omega) | (simp; omega))
    refine Hb.take (v := .bool false) 17 23 rfl ?_ (fun _ _ => rfl)
    refine Hb.pass 18 24 rfl ?_
    refine Hb.pass 19 25 rfl ?_
    refine Hb.pass 20 26 rfl ?_
    refine Hb.pass 21 27 rfl ?_
    refine Hb.pass 22 28 rfl ?_
    refine Hb.pass 23 29 rfl ?_
    refine Hb.pass 24 30 rfl ?_
    refine Hb.pass 25 31 rfl ?_
    refine Hb.pass 26 32 rfl ?_
    refine Hb.pass 27 33 rfl ?_
    refine Hb.take (v := Value.bool false) 28 34 rfl ?_ (fun _ _ => rfl)
    refine Hb.take (v := Value.bool false) 29 35 rfl ?_ (fun _ _ => rfl)
    refine Hb.done ?_
-- END
    go_wp2_with fail
    generalize w3 = wq at *
    have RQ := Lib.hid (show Rd wq.drew w1.drew.heap.size A c 7 n (els l) from R1.out.more (Nat.le_of_lt LT.out))
    have BQ := Lib.hid (show Below w.heap.size w wq.drew from BT.out.drew)
    replace K := Lib.hid (show Blk wq.drew w.heap.size 52 (ecs e) from K.out)
    clear R1 BT b2 b3
    refine Hb.begin ?_
    refine Hb.take (v := .slice A n c) 0 37 rfl ?_ (fun _ _ => rfl)
    refine Hb.take (v := ev e) 2 39 rfl ?_ (fun w' hw' => run_loadE ((K.out.below hw' K.out.lt).range) rfl)
    refine Hb.two 1 3 ?_ ?_
    · refine Hb.pick 1 (some 38) rfl ?_
      refine wpList_app rfl (.const (.slice none 0 0)) (.tmp 37) 30 rfl wq.drew.heap.size 52 _ 7 64 Try.underlying30 ent_info rfl (by omega) _ 0 [] rfl (World.ownsRow_nil _ _ _ _) _ A c n (els l) rfl RQ.out (els_one _) ?d1 ?d2 (Nat.le_refl _) ?_
      case d1 => unfold maxLen; omega
      case d2 => omega
      intro A4 c4 w4 o4 g4 b4
      rw [Nat.zero_add] at o4 ⊢
      rw [List.nil_append] at o4
      have O4 := Lib.hid o4
      have B4 := Lib.hid b4
      clear o4 g4 b4
      refine Hb.next B4.out (Nat.le_refl _) ?_
      refine Hb.only 3 (some 40) rfl ?_
      refine wpList_buildE rfl (.tmp 39) rfl e rfl ?_
      have b5 := (Below.refl w4.heap.size w4).alloc (Nat.le_refl _) (.cells (ecs e).toArray 52)
      have N5 := Lib.hid (Rd.new w4 (ecs e).toArray 52 7 1 rfl (by unfold maxLen; omega))
      have O5 := Lib.hid (own_below O4.out b5)
      have B5 := Lib.hid (b5.mono B4.out.size)
      have BA5 := Lib.hid (B4.out.trans B5.out)
      clear b5 O4
      refine Hb.next B5.out (Nat.le_refl _) ?_ (by simp only [Act.put, List.setIfInBounds_toArray, List.set_cons_succ, List.set_cons_zero]; rfl)
      refine Hb.only 4 (some 41) rfl ?_
      refine wpList_app rfl (.tmp 38) (.tmp 40) 30 rfl wq.drew.heap.size 52 _ 7 64 Try.underlying30 ent_info rfl (by omega) _ n (els l) rfl O5.out _ _ 1 1 (ecs e) rfl N5.out (ecs_one e) ?e1 ?e2 BA5.out.size ?_
      case e1 => unfold maxLen; omega
      case e2 => omega
      intro A6 c6 w6 o6 g6 b6
      refine Hb.next b6 (Nat.le_refl _) ?_
      refine Hb.take (v := .slice A6 (n + 1) c6) 5 4 rfl ?_ (fun _ _ => rfl)
      refine Hb.take (v := .bool true) 6 5 rfl ?_ (fun _ _ => rfl)
      refine Hb.done ?_
      have e6 : els l ++ ecs e = els (l ++ [e]) := by rw [els_append]; simp [els]
      rw [e6] at o6
      have O6 := Lib.hid (own_base o6 (show w.heap.size ≤ wq.drew.heap.size from BQ.out.size))
      have B6 := Lib.hid (BQ.out.trans ((BA5.out.trans b6).mono (show w.heap.size ≤ wq.drew.heap.size from BQ.out.size)))
      clear o6 b6 g6
      go_wp2_with fail
      go_ret2
      exact ⟨A6, c6, rfl, O6.out, B6.out⟩
    · refine Hb.pick 3 (some 40) rfl ?_
      refine wpList_buildE rfl (.tmp 39) rfl e rfl ?_
      have b4 := (Below.refl wq.drew.heap.size wq.drew).alloc (Nat.le_refl _) (.cells (ecs e).toArray 52)
      have N4 := Lib.hid (Rd.new wq.drew (ecs e).toArray 52 7 1 rfl (by unfold maxLen; omega))
      have R4 := Lib.hid (RQ.out.past b4)
      have B4 := Lib.hid b4
      clear b4
      refine Hb.next B4.out (Nat.le_refl _) ?_ (by simp only [Act.put, List.setIfInBounds_toArray, List.set_cons_succ, List.set_cons_zero]; rfl)
      generalize wq.drew.alloc (.cells (ecs e).toArray 52) = w4 at *
      refine Hb.only 1 (some 38) rfl ?_
      refine wpList_app rfl (.const (.slice none 0 0)) (.tmp 37) 30 rfl w4.heap.size 52 _ 7 64 Try.underlying30 ent_info rfl (by omega) _ 0 [] rfl (World.ownsRow_nil _ _ _ _) _ A c n (els l) rfl R4.out (els_one _) ?d1 ?d2 (Nat.le_refl _) ?_
      case d1 => unfold maxLen; omega
      case d2 => omega
      intro A5 c5 w5 o5 g5 b5
      rw [Nat.zero_add] at o5 ⊢
      rw [List.nil_append] at o5
      have O5 := Lib.hid (own_base o5 B4.out.size)
      have N5 := Lib.hid (N4.out.tight.past b5)
      have B5 := Lib.hid (b5.mono B4.out.size)
      have BA5 := Lib.hid (B4.out.trans B5.out)
      clear o5 g5 b5 N4
      refine Hb.next B5.out (Nat.le_refl _) ?_ (by simp only [Act.put, List.setIfInBounds_toArray, List.set_cons_succ, List.set_cons_zero]; rfl)
      refine Hb.only 4 (some 41) rfl ?_
      refine wpList_app rfl (.tmp 38) (.tmp 40) 30 rfl wq.drew.heap.size 52 _ 7 64 Try.underlying30 ent_info rfl (by omega) _ n (els l) rfl O5.out _ _ 1 1 (ecs e) rfl N5.out (ecs_one e) ?e1 ?e2 BA5.out.size ?_
      case e1 => unfold maxLen; omega
      case e2 => omega
      intro A6 c6 w6 o6 g6 b6
      refine Hb.next b6 (Nat.le_refl _) ?_
      refine Hb.take (v := .slice A6 (n + 1) c6) 5 4 rfl ?_ (fun _ _ => rfl)
      refine Hb.take (v := .bool true) 6 5 rfl ?_ (fun _ _ => rfl)
      refine Hb.done ?_
      have e6 : els l ++ ecs e = els (l ++ [e]) := by rw [els_append]; simp [els]
      rw [e6] at o6
      have O6 := Lib.hid (own_base o6 (show w.heap.size ≤ wq.drew.heap.size from BQ.out.size))
      have B6 := Lib.hid (BQ.out.trans ((BA5.out.trans b6).mono (show w.heap.size ≤ wq.drew.heap.size from BQ.out.size)))
      clear o6 b6 g6
      go_wp2_with fail
      go_ret2
      exact ⟨A6, c6, rfl, O6.out, B6.out⟩
  · obtain ⟨i, y, hy, hil, hst⟩ : ∃ i y, l[i]? = some y ∧ n = i + 1 ∧ ¬ e.stamp < y.stamp := by
      unfold PLog.early at he
      rw [List.getLast?_eq_getElem?] at he
      have hlt : l.length - 1 < l.length := by have := HL.out; omega
      rw [List.getElem?_eq_getElem hlt] at he
      exact ⟨l.length - 1, l[l.length - 1], List.getElem?_eq_getElem hlt, by have := HL.out; omega, of_decide_eq_false he⟩
    obtain ⟨b, o, y', hA, hb, hy', -, -⟩ := R.tight.entR (i := i) (by omega)
    have HB := Lib.hid (show b < (w.alloc (.cells #[.int .i64 e.fr, .int .i64 e.boot, .int .i64 e.seq, .int .i64 e.ord, .int .i64 e.lev, .int .i64 e.stamp, .string e.data] 52)).drew.heap.size from Nat.lt_of_lt_of_le hb BT.out.size)
    have HY := Lib.hid hy
    subst hA
    have jp : (0 : Int) < (n : Int) := by omega
    have ji : ((n : Int) - 1) = (i : Int) := by omega
    clear hc hm hh he hz hb hy hy' R hil hf
    show Calls _ _ #[_, .agg #[.int .i64 e.fr, .int .i64 e.boot, .int .i64 e.seq, .int .i64 e.ord, .int .i64 e.lev, .int .i64 e.stamp, .string e.data]] _ _
    go_enter Try.func40, Try.ntmps40
    go_wp2_with fail
    generalize (w.alloc (.cells #[.int .i64 e.fr, .int .i64 e.boot, .int .i64 e.seq, .int .i64 e.ord, .int .i64 e.lev, .int .i64 e.stamp, .string e.data] 52)) = w1 at *
-- REGION curfew/curfewref12.Add 1 radd_ok 4
    refine Hb.begin ?_
    refine Hb.take (v := ev e) 0 6 rfl ?_ (fun w' hw' => by exact run_loadE ((K.out.below hw' LT.out).range) rfl)
    refine Hb.call (f := 51) (args := #[ev e]) 1 7 rfl ?_ (run_callf Try.func51 (by kernel_rfl) (by kernel_rfl) (by simp only [List.map_toArray, List.map_cons, List.map_nil]; rfl))
    refine (rMay_c _ e).mono ?_
    rw [HM.out]
    rintro x w2 ⟨rfl, b2⟩
    have K := Lib.hid (K.out.below b2 LT.out)
    have R1 := Lib.hid (R1.out.below (b2.mono (Nat.le_of_lt LT.out)))
    have BT := Lib.hid (BT.out.trans (b2.mono (Nat.le_of_lt LT.out)))
    refine Hb.back b2 (Nat.le_refl _) ?_
    refine Hb.take (v := .bool false) 2 8 rfl ?_ (fun w' hw' => by go_simp; first | done | rfl | omega | exact wrap_in (by omega) (by omega) | exact Int.tmod_eq_emod_of_nonneg (by omega) | exact Int.tdiv_eq_ediv_of_nonneg (by omega) | (simp; omega))
    refine Hb.take (v := .bool false) 3 9 rfl ?_ (fun _ _ => rfl)
    refine Hb.take (v := .slice (some ⟨b, o, none⟩) n c) 4 10 rfl ?_ (fun _ _ => rfl)
    refine Hb.take (v := ev e) 5 11 rfl ?_ (fun w' hw' => by exact run_loadE ((K.out.below hw' LT.out).range) rfl)
    refine Hb.call (f := 52) (args := #[.slice (some ⟨b, o, none⟩) n c, ev e]) 6 12 rfl ?_ (run_callf Try.func52 (by kernel_rfl) (by kernel_rfl) (by simp only [List.map_toArray, List.map_cons, List.map_nil]; rfl))
    refine (rHas_c _ _ (some ⟨b, o, none⟩) c n l R1.out.tight e).mono ?_
    rw [HH.out]
    rintro x w3 ⟨rfl, b3⟩
    have b3 := b3.mono (show w1.drew.heap.size ≤ w2.heap.size from b2.size)
    have K := Lib.hid (K.out.below b3 LT.out)
    have R1 := Lib.hid (R1.out.below (b3.mono (Nat.le_of_lt LT.out)))
    have BT := Lib.hid (BT.out.trans (b3.mono (Nat.le_of_lt LT.out)))
    refine Hb.back b3 (Nat.le_refl _) ?_
    refine Hb.take (v := .bool false) 7 13 rfl ?_ (fun _ _ => rfl)
    refine Hb.take (v := .bool false) 8 14 rfl ?_ (fun _ _ => rfl)
    refine Hb.take (v := .slice (some ⟨b, o, none⟩) n c) 9 15 rfl ?_ (fun _ _ => rfl)
    refine Hb.take (v := .int .i64 (n : Int)) 10 16 rfl ?_ (fun w' hw' => by go_simp; first | done | rfl | omega | exact wrap_in (by omega) (by omega) | exact Int.tmod_eq_emod_of_nonneg (by omega) | exact Int.tdiv_eq_ediv_of_nonneg (by omega) | (simp; omega))
    refine Hb.take (v := .bool false) 11 17 rfl ?_ (fun w' hw' => by go_simp; first | done | rfl | omega | exact wrap_in (by omega) (by omega) | exact Int.tmod_eq_emod_of_nonneg (by omega) | exact Int.tdiv_eq_ediv_of_nonneg (by omega) | (simp; omega))
    refine Hb.take (v := .bool false) 12 18 rfl ?_ (fun _ _ => rfl)
    refine Hb.take (v := .bool false) 13 19 rfl ?_ (fun _ _ => rfl)
    refine Hb.take (v := .slice (some ⟨b, o, none⟩) n c) 14 20 rfl ?_ (fun _ _ => rfl)
    refine Hb.take (v := .int .i64 (n : Int)) 15 21 rfl ?_ (fun w' hw' => by go_simp; first | done | rfl | omega | exact wrap_in (by omega) (by omega) | exact Int.tmod_eq_emod_of_nonneg (by omega) | exact Int.tdiv_eq_ediv_of_nonneg (by omega) | (simp; omega))
    refine Hb.take (v := .bool true) 16 22 rfl ?_ (fun w' hw' => by go_simp; first | done | rfl | omega | exact wrap_in (by omega) (by omega) | exact Int.tmod_eq_emod_of_nonneg (by omega) | exact Int.tdiv_eq_ediv_of_nonneg (by omega) | (simp; omega))
    refine Hb.take (v := .bool true) 17 23 rfl ?_ (fun _ _ => rfl)
    refine Hb.take (v := .pointer (some ⟨w.heap.size, 5, none⟩)) 18 24 rfl ?_ (fun w' hw' => by go_simp; first | done | rfl | omega | exact wrap_in (by omega) (by omega) | exact Int.tmod_eq_emod_of_nonneg (by omega) | exact Int.tdiv_eq_ediv_of_nonneg (by omega) | (simp; omega))
    refine Hb.take (v := .int .i64 e.stamp) 19 25 rfl ?_ (fun w' hw' => by exact run_loadI ((hw'.cell (p := ⟨w.heap.size, 5, none⟩) LT.out).trans (K.out.cell (i := 5) rfl)) rfl)
    refine Hb.take (v := .slice (some ⟨b, o, none⟩) n c) 20 26 rfl ?_ (fun _ _ => rfl)
    refine Hb.take (v := .slice (some ⟨b, o, none⟩) n c) 21 27 rfl ?_ (fun _ _ => rfl)
    refine Hb.take (v := .int .i64 (n : Int)) 22 28 rfl ?_ (fun w' hw' => by go_simp; first | done | rfl | omega | exact wrap_in (by omega) (by omega) | exact Int.tmod_eq_emod_of_nonneg (by omega) | exact Int.tdiv_eq_ediv_of_nonneg (by omega) | (simp; omega))
    refine Hb.take (v := .int .i64 (i : Int)) 23 29 rfl ?_ (fun w' hw' => by go_simp; first | done | rfl | omega | exact wrap_in (by omega) (by omega) | exact Int.tmod_eq_emod_of_nonneg (by omega) | exact Int.tdiv_eq_ediv_of_nonneg (by omega) | (simp; omega))
    refine Hb.take (v := .pointer (some ⟨b, o + i * 7, none⟩)) 24 30 rfl ?_ (fun w' hw' => by go_simp; first | done | rfl | omega | exact wrap_in (by omega) (by omega) | exact Int.tmod_eq_emod_of_nonneg (by omega) | exact Int.tdiv_eq_ediv_of_nonneg (by omega) | (simp; omega))
    refine Hb.take (v := .pointer (some ⟨b, o + i * 7 + 5, none⟩)) 25 31 rfl ?_ (fun w' hw' => by go_simp; first | done | rfl | omega | exact wrap_in (by omega) (by omega) | exact Int.tmod_eq_emod_of_nonneg (by omega) | exact Int.tdiv_eq_ediv_of_nonneg (by omega) | (simp; omega))
    refine Hb.take (v := .int .i64 y.stamp) 26 32 rfl ?_ (fun w' hw' => by exact run_loadI ((hw'.cell (p := ⟨b, o + i * 7 + 5, none⟩) HB.out).trans (range_stamp (R1.out.rangeOf rfl HY.out))) rfl)
    refine Hb.take (v := .bool false) 27 33 rfl ?_ (fun w' hw' => by go_simp; first | done | rfl | omega | exact wrap_in (by omega) (by omega) | exact Int.tmod_eq_emod_of_nonneg (by omega) | exact Int.tdiv_eq_ediv_of_nonneg (by omega) | (simp; omega))
    refine Hb.take (v := .bool false) 28 34 rfl ?_ (fun _ _ => rfl)
    refine Hb.take (v := .bool false) 29 35 rfl ?_ (fun _ _ => rfl)
    refine Hb.done ?_
-- END
    go_wp2_with fail
    generalize w3 = wq at *
    have RQ := Lib.hid (show Rd wq.drew w1.drew.heap.size (some ⟨b, o, none⟩) c 7 n (els l) from R1.out.more (Nat.le_of_lt LT.out))
    have BQ := Lib.hid (show Below w.heap.size w wq.drew from BT.out.drew)
    replace K := Lib.hid (show Blk wq.drew w.heap.size 52 (ecs e) from K.out)
    clear R1 BT b2 b3
    refine Hb.begin ?_
    refine Hb.take (v := .slice (some ⟨b, o, none⟩) n c) 0 37 rfl ?_ (fun _ _ => rfl)
    refine Hb.take (v := ev e) 2 39 rfl ?_ (fun w' hw' => run_loadE ((K.out.below hw' K.out.lt).range) rfl)
    refine Hb.two 1 3 ?_ ?_
    · refine Hb.pick 1 (some 38) rfl ?_
      refine wpList_app rfl (.const (.slice none 0 0)) (.tmp 37) 30 rfl wq.drew.heap.size 52 _ 7 64 Try.underlying30 ent_info rfl (by omega) _ 0 [] rfl (World.ownsRow_nil _ _ _ _) _ (some ⟨b, o, none⟩) c n (els l) rfl RQ.out (els_one _) ?d1 ?d2 (Nat.le_refl _) ?_
      case d1 => unfold maxLen; omega
      case d2 => omega
      intro A4 c4 w4 o4 g4 b4
      rw [Nat.zero_add] at o4 ⊢
      rw [List.nil_append] at o4
      have O4 := Lib.hid o4
      have B4 := Lib.hid b4
      clear o4 g4 b4
      refine Hb.next B4.out (Nat.le_refl _) ?_
      refine Hb.only 3 (some 40) rfl ?_
      refine wpList_buildE rfl (.tmp 39) rfl e rfl ?_
      have b5 := (Below.refl w4.heap.size w4).alloc (Nat.le_refl _) (.cells (ecs e).toArray 52)
      have N5 := Lib.hid (Rd.new w4 (ecs e).toArray 52 7 1 rfl (by unfold maxLen; omega))
      have O5 := Lib.hid (own_below O4.out b5)
      have B5 := Lib.hid (b5.mono B4.out.size)
      have BA5 := Lib.hid (B4.out.trans B5.out)
      clear b5 O4
      refine Hb.next B5.out (Nat.le_refl _) ?_ (by simp only [Act.put, List.setIfInBounds_toArray, List.set_cons_succ, List.set_cons_zero]; rfl)
      refine Hb.only 4 (some 41) rfl ?_
      refine wpList_app rfl (.tmp 38) (.tmp 40) 30 rfl wq.drew.heap.size 52 _ 7 64 Try.underlying30 ent_info rfl (by omega) _ n (els l) rfl O5.out _ _ 1 1 (ecs e) rfl N5.out (ecs_one e) ?e1 ?e2 BA5.out.size ?_
      case e1 => unfold maxLen; omega
      case e2 => omega
      intro A6 c6 w6 o6 g6 b6
      refine Hb.next b6 (Nat.le_refl _) ?_
      refine Hb.take (v := .slice A6 (n + 1) c6) 5 4 rfl ?_ (fun _ _ => rfl)
      refine Hb.take (v := .bool true) 6 5 rfl ?_ (fun _ _ => rfl)
      refine Hb.done ?_
      have e6 : els l ++ ecs e = els (l ++ [e]) := by rw [els_append]; simp [els]
      rw [e6] at o6
      have O6 := Lib.hid (own_base o6 (show w.heap.size ≤ wq.drew.heap.size from BQ.out.size))
      have B6 := Lib.hid (BQ.out.trans ((BA5.out.trans b6).mono (show w.heap.size ≤ wq.drew.heap.size from BQ.out.size)))
      clear o6 b6 g6
      go_wp2_with fail
      go_ret2
      exact ⟨A6, c6, rfl, O6.out, B6.out⟩
    · refine Hb.pick 3 (some 40) rfl ?_
      refine wpList_buildE rfl (.tmp 39) rfl e rfl ?_
      have b4 := (Below.refl wq.drew.heap.size wq.drew).alloc (Nat.le_refl _) (.cells (ecs e).toArray 52)
      have N4 := Lib.hid (Rd.new wq.drew (ecs e).toArray 52 7 1 rfl (by unfold maxLen; omega))
      have R4 := Lib.hid (RQ.out.past b4)
      have B4 := Lib.hid b4
      clear b4
      refine Hb.next B4.out (Nat.le_refl _) ?_ (by simp only [Act.put, List.setIfInBounds_toArray, List.set_cons_succ, List.set_cons_zero]; rfl)
      generalize wq.drew.alloc (.cells (ecs e).toArray 52) = w4 at *
      refine Hb.only 1 (some 38) rfl ?_
      refine wpList_app rfl (.const (.slice none 0 0)) (.tmp 37) 30 rfl w4.heap.size 52 _ 7 64 Try.underlying30 ent_info rfl (by omega) _ 0 [] rfl (World.ownsRow_nil _ _ _ _) _ (some ⟨b, o, none⟩) c n (els l) rfl R4.out (els_one _) ?d1 ?d2 (Nat.le_refl _) ?_
      case d1 => unfold maxLen; omega
      case d2 => omega
      intro A5 c5 w5 o5 g5 b5
      rw [Nat.zero_add] at o5 ⊢
      rw [List.nil_append] at o5
      have O5 := Lib.hid (own_base o5 B4.out.size)
      have N5 := Lib.hid (N4.out.tight.past b5)
      have B5 := Lib.hid (b5.mono B4.out.size)
      have BA5 := Lib.hid (B4.out.trans B5.out)
      clear o5 g5 b5 N4
      refine Hb.next B5.out (Nat.le_refl _) ?_ (by simp only [Act.put, List.setIfInBounds_toArray, List.set_cons_succ, List.set_cons_zero]; rfl)
      refine Hb.only 4 (some 41) rfl ?_
      refine wpList_app rfl (.tmp 38) (.tmp 40) 30 rfl wq.drew.heap.size 52 _ 7 64 Try.underlying30 ent_info rfl (by omega) _ n (els l) rfl O5.out _ _ 1 1 (ecs e) rfl N5.out (ecs_one e) ?e1 ?e2 BA5.out.size ?_
      case e1 => unfold maxLen; omega
      case e2 => omega
      intro A6 c6 w6 o6 g6 b6
      refine Hb.next b6 (Nat.le_refl _) ?_
      refine Hb.take (v := .slice A6 (n + 1) c6) 5 4 rfl ?_ (fun _ _ => rfl)
      refine Hb.take (v := .bool true) 6 5 rfl ?_ (fun _ _ => rfl)
      refine Hb.done ?_
      have e6 : els l ++ ecs e = els (l ++ [e]) := by rw [els_append]; simp [els]
      rw [e6] at o6
      have O6 := Lib.hid (own_base o6 (show w.heap.size ≤ wq.drew.heap.size from BQ.out.size))
      have B6 := Lib.hid (BQ.out.trans ((BA5.out.trans b6).mono (show w.heap.size ≤ wq.drew.heap.size from BQ.out.size)))
      clear o6 b6 g6
      go_wp2_with fail
      go_ret2
      exact ⟨A6, c6, rfl, O6.out, B6.out⟩

set_option maxHeartbeats 8000000 in
set_option maxRecDepth 100000 in
theorem rLog_c (w : World) (B : Nat) (A : Option Addr) (c n : Nat) (es : List Ent) (R : Rd w B A c 7 n (els es)) :
    Calls Try.prog 22 #[.slice A n c] w fun x w' => ∃ A' c', x = .returned (.slice A' (PLog.log es).length c') ∧ w'.ownsRow w.heap.size 52 7 (.slice A' (PLog.log es).length c') (PLog.log es).length (els (PLog.log es)) ∧ Below w.heap.size w w' := by
  have hcap := R.cap
  have hle := R.le
  have hn : n ≤ 9223372036854775807 := by unfold maxLen at hcap; omega
  have HL := Lib.hid R.elen
  have R0 := Lib.hid R.tight
  clear R hcap hle
  go_enter Try.func22, Try.ntmps22
  go_wp2_with fail
  go_loopw [3, 4] (fun s3 s4 wr => ∃ (i m : Nat) (A' : Option Addr) (c' : Nat), i ≤ n ∧ s4 = .int .i64 i ∧ s3 = .slice A' m c' ∧ Hid ((PLog.log (es.take i)).length = m) ∧ Hid (wr.ownsRow w.heap.size 52 7 (.slice A' m c') m (els (PLog.log (es.take i)))) ∧ Hid (Below w.heap.size w wr)) (fun _ s4 _ => n - (intOf s4).toNat)
  case atStart => exact ⟨0, 0, none, 0, by omega, rfl, rfl, Lib.hid rfl, Lib.hid (World.ownsRow_nil _ _ _ _), Lib.hid (Below.refl _ _)⟩
  case round =>
    obtain ⟨i, m, A1, c1, hi, rfl, rfl, HM, HO, BT⟩ := hrel
    by_cases hin : i < n
    · obtain ⟨b, o, e, rfl, -, he, -, d0, d1, d2, d3, d4, d5, d6⟩ := (R0.out.below BT.out).ent hin
      have HE := Lib.hid he
      clear he
      have HQ := Lib.hid (show PLog.log (es.take (i + 1)) = PLog.add (PLog.log (es.take i)) e by rw [take_step HE.out, PLog.log_append])
      go_wp2_with fail
      clear d0 d1 d2 d3 d4 d5 d6
      cases hc : PLog.can (PLog.log (es.take i)) e
      · have HQ2 := Lib.hid (show PLog.log (es.take (i + 1)) = PLog.log (es.take i) by rw [HQ.out]; unfold PLog.add; rw [hc]; rfl)
        refine (rAdd_no wr _ A1 c1 m _ (Rd.of_own HO.out) e hc).mono ?_
        clear hc
        rintro x w2 ⟨rfl, b2⟩
        have O2 := Lib.hid (own_below HO.out b2)
        have B2 := Lib.hid (BT.out.trans (b2.mono BT.out.size))
        clear b2
        go_wp2_with fail
        go_roundw
        case rel => exact ⟨i + 1, m, A1, c1, by omega, by go_num, rfl, by rw [HQ2.out]; exact HM, by rw [HQ2.out]; exact O2, B2⟩
        case measure => simp [intOf]; omega
      · have HQ2 := Lib.hid (show PLog.log (es.take (i + 1)) = PLog.log (es.take i) ++ [e] by rw [HQ.out]; unfold PLog.add; rw [hc]; rfl)
        refine (rAdd_yes wr _ A1 c1 m _ (Rd.of_own HO.out) e hc).mono ?_
        clear hc
        rintro x w2 ⟨A2, c2, rfl, o2, b2⟩
        have O2 := Lib.hid (own_base o2 BT.out.size)
        have B2 := Lib.hid (BT.out.trans (b2.mono BT.out.size))
        clear b2 o2
        go_wp2_with fail
        go_roundw
        case rel => exact ⟨i + 1, m + 1, A2, c2, by omega, by go_num, rfl, Lib.hid (by rw [HQ2.out]; simp [HM.out]), by rw [HQ2.out]; exact O2, B2⟩
        case measure => simp [intOf]; omega
    · obtain rfl : i = n := by omega
      have e1 : es.take i = es := List.take_of_length_le (by rw [HL.out]; omega)
      rw [e1] at HM HO
      go_wp2_with fail
      go_ret
      refine ⟨A1, c1, ?_, ?_, BT.out⟩
      · rw [HM.out]; rfl
      · rw [HM.out]; exact HO.out


end Go.Proofs.Ytheeigbljjcbpaa
