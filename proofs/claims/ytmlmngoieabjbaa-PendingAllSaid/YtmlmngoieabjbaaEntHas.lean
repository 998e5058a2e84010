/- The document's Has of a list of entries. -/
import Derived.Test.YtmlmngoieabjbaaEntM
import Derived.Test.YtmlmngoieabjbaaEntN
import Derived.Test.YtmlmngoieabjbaaPlainLog
namespace Go.Proofs.Ytmlmngoieabjbaa
open Go.RowKit

set_option maxHeartbeats 4000000 in
set_option maxRecDepth 100000 in
theorem rHas_c (w : World) (B : Nat) (A : Option Addr) (c n : Nat) (l : List Ent) (R : Rd w B A c 7 n (els l)) (e : Ent) :
    Calls Try.prog 25 #[.slice A n c, ev e] w fun x w' => x = .returned (.bool (PLog.has l e)) ∧ Below w.heap.size w w' := by
  have hcap := R.cap
  have hle := R.le
  have hn : n ≤ 9223372036854775807 := by unfold maxLen at hcap; omega
  have HL := Lib.hid R.elen
  have R0 := Lib.hid (R.tight.alloc (.cells #[.int .i64 e.fr, .int .i64 e.boot, .int .i64 e.seq, .int .i64 e.ord, .int .i64 e.lev, .int .i64 e.stamp, .string e.data] 35))
  have b0 := Lib.hid ((Below.refl w.heap.size w).alloc (Nat.le_refl _) (.cells #[.int .i64 e.fr, .int .i64 e.boot, .int .i64 e.seq, .int .i64 e.ord, .int .i64 e.lev, .int .i64 e.stamp, .string e.data] 35))
  have K0 := Lib.hid (Blk.newEnt w 35 e)
  clear R hcap hle
  show Calls _ _ #[_, .agg #[.int .i64 e.fr, .int .i64 e.boot, .int .i64 e.seq, .int .i64 e.ord, .int .i64 e.lev, .int .i64 e.stamp, .string e.data]] _ _
  go_enter Try.func25, Try.ntmps25
  go_wp2_with fail
  generalize (w.alloc (.cells #[.int .i64 e.fr, .int .i64 e.boot, .int .i64 e.seq, .int .i64 e.ord, .int .i64 e.lev, .int .i64 e.stamp, .string e.data] 35)) = w1 at *
  go_loopw [5] (fun s5 wr => ∃ i : Nat, i ≤ n ∧ s5 = .int .i64 i ∧ Hid ((l.take i).any (fun x => PEnt.same x e) = false) ∧ Hid (Below w1.heap.size w1 wr)) (fun s5 _ => n - (intOf s5).toNat)
  case atStart => exact ⟨0, by omega, rfl, Lib.hid rfl, Lib.hid (Below.refl _ _)⟩
  case round =>
    obtain ⟨i, hi, rfl, HP, BL⟩ := hrel
    by_cases hlt : i < n
    · obtain ⟨b, o, y, rfl, hb, hy, -, hr⟩ := (R0.out.tight.below BL.out).entR hlt
      have HY := Lib.hid hy
      have HB := Lib.hid (show b < wr.drew.heap.size from Nat.lt_of_lt_of_le hb BL.out.size)
      have HR := Lib.hid (show wr.drew.rangeAt b (o + i * 7) (ecs y) from hr)
      have K1 := Lib.hid (show Blk wr.drew w.heap.size 35 (ecs e) from (K0.out.below BL.out K0.out.lt).drew)
      have LT := Lib.hid (show w.heap.size < wr.drew.heap.size from K1.out.lt)
      clear hy hb hr
      cases hq : PEnt.same y e
      · have HP' := Lib.hid (any_take (p := fun x => PEnt.same x e) HY.out HP.out hq)
        have HS := Lib.hid hq
        clear hq
        go_wp2_with fail
-- REGION curfew/curfewref12.Has 4 rhas_f 8
        refine Hb.begin ?_
        refine Hb.take (v := .slice (some ⟨b, o, none⟩) n c) 0 12 rfl ?_ (fun _ _ => rfl)
        refine Hb.take (v := .int .i64 (i : Int)) 1 13 rfl ?_ (fun _ _ => rfl)
        refine Hb.take (v := .pointer (some ⟨b, o + i * 7, none⟩)) 2 14 rfl ?_ (fun w' hw' => by go_simp; first | done | rfl | omega | exact wrap_in (by omega) (by omega) | exact Int.tmod_eq_emod_of_nonneg (by omega) | exact Int.tdiv_eq_ediv_of_nonneg (by omega) | (simp; omega))
        refine Hb.take (v := ev y) 3 15 rfl ?_ (fun w' hw' => by exact run_loadE (rangeAt_below HR.out hw' HB.out) rfl)
        refine Hb.take (v := ev e) 4 16 rfl ?_ (fun w' hw' => by exact run_loadE ((K1.out.below hw' LT.out).range) rfl)
        refine Hb.call (f := 20) (args := #[ev y, ev e]) 5 17 rfl ?_ (run_callf Try.func20 (by kernel_rfl) (by kernel_rfl) (by simp only [List.map_toArray, List.map_cons, List.map_nil]; rfl))
        refine (rSame_c wr.drew y e).mono ?_
        rw [HS.out]
        rintro x w3 ⟨rfl, b3⟩
        refine Hb.back b3 (Nat.le_refl _) ?_
        refine Hb.done ?_
-- END
        go_wp2_with fail
        go_roundw
        case rel => exact ⟨i + 1, by omega, by go_num, HP', Lib.hid (BL.out.drew.trans (b3.mono BL.out.size))⟩
        case measure => simp [intOf]; omega
      · have HP' := Lib.hid (show PLog.has l e = true from any_at (p := fun x => PEnt.same x e) HY.out hq)
        have HS := Lib.hid hq
        clear hq
        go_wp2_with fail
-- REGION curfew/curfewref12.Has 4 rhas_t 8
        refine Hb.begin ?_
        refine Hb.take (v := .slice (some ⟨b, o, none⟩) n c) 0 12 rfl ?_ (fun _ _ => rfl)
        refine Hb.take (v := .int .i64 (i : Int)) 1 13 rfl ?_ (fun _ _ => rfl)
        refine Hb.take (v := .pointer (some ⟨b, o + i * 7, none⟩)) 2 14 rfl ?_ (fun w' hw' => by go_simp; first | done | rfl | omega | exact wrap_in (by omega) (by omega) | exact Int.tmod_eq_emod_of_nonneg (by omega) | exact Int.tdiv_eq_ediv_of_nonneg (by omega) | (simp; omega))
        refine Hb.take (v := ev y) 3 15 rfl ?_ (fun w' hw' => by exact run_loadE (rangeAt_below HR.out hw' HB.out) rfl)
        refine Hb.take (v := ev e) 4 16 rfl ?_ (fun w' hw' => by exact run_loadE ((K1.out.below hw' LT.out).range) rfl)
        refine Hb.call (f := 20) (args := #[ev y, ev e]) 5 17 rfl ?_ (run_callf Try.func20 (by kernel_rfl) (by kernel_rfl) (by simp only [List.map_toArray, List.map_cons, List.map_nil]; rfl))
        refine (rSame_c wr.drew y e).mono ?_
        rw [HS.out]
        rintro x w3 ⟨rfl, b3⟩
        refine Hb.back b3 (Nat.le_refl _) ?_
        refine Hb.done ?_
-- END
        go_wp2_with fail
        go_ret
        exact ⟨by rw [HP'.out]; rfl, b0.out.trans ((BL.out.drew.trans (b3.mono BL.out.size)).mono b0.out.size)⟩
    · obtain rfl : i = n := by omega
      have HF := Lib.hid (show PLog.has l e = false by have := HP.out; rwa [List.take_of_length_le (by rw [HL.out]; omega)] at this)
      go_wp2_with fail
      go_ret
      exact ⟨by rw [HF.out]; rfl, b0.out.trans (BL.out.mono b0.out.size)⟩

end Go.Proofs.Ytmlmngoieabjbaa
