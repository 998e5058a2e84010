/- The walk of EntryMay. -/
import Derived.Test.YtoflbgmmnljloaaEntJ
import Derived.Test.YtoflbgmmnljloaaEntI
import Derived.Test.YtoflbgmmnljloaaEntK
import Derived.Test.YtoflbgmmnljloaaHeld2
import Derived.Deep.CutRange
namespace Go.Proofs.Ytoflbgmmnljloaa
open Go.RowKit

set_option maxHeartbeats 8000000 in
set_option maxRecDepth 100000 in
theorem EntryMay_w (w : World) (a b : Ent) :
    Calls Try.prog 3 #[ev a, ev b] w fun x w' => x = .returned (.bool true) ∧ Below w.heap.size w w' := by
  show Calls _ _ #[.agg #[.int .i64 a.fr, .int .i64 a.boot, .int .i64 a.seq, .int .i64 a.ord, .int .i64 a.lev, .int .i64 a.stamp, .string a.data], .agg #[.int .i64 b.fr, .int .i64 b.boot, .int .i64 b.seq, .int .i64 b.ord, .int .i64 b.lev, .int .i64 b.stamp, .string b.data]] _ _
  go_enter Try.func3, Try.ntmps3
  go_wp2_with fail
  have s1 : (w.alloc (.cells #[.int .i64 a.fr, .int .i64 a.boot, .int .i64 a.seq, .int .i64 a.ord, .int .i64 a.lev, .int .i64 a.stamp, .string a.data] 23)).heap.size = w.heap.size + 1 := by simp
  have bl := ((Below.refl w.heap.size w).alloc (Nat.le_refl _) (.cells #[.int .i64 a.fr, .int .i64 a.boot, .int .i64 a.seq, .int .i64 a.ord, .int .i64 a.lev, .int .i64 a.stamp, .string a.data] 23)).alloc (by rw [s1]; omega) (.cells #[.int .i64 b.fr, .int .i64 b.boot, .int .i64 b.seq, .int .i64 b.ord, .int .i64 b.lev, .int .i64 b.stamp, .string b.data] 23)
  have ka := (Blk.newEnt w 23 a).alloc (.cells #[.int .i64 b.fr, .int .i64 b.boot, .int .i64 b.seq, .int .i64 b.ord, .int .i64 b.lev, .int .i64 b.stamp, .string b.data] 23)
  have kb := Blk.newEnt (w.alloc (.cells #[.int .i64 a.fr, .int .i64 a.boot, .int .i64 a.seq, .int .i64 a.ord, .int .i64 a.lev, .int .i64 a.stamp, .string a.data] 23)) 23 b
  rw [s1] at kb
  refine (begun_c _).mono ?_
  rintro x w1 ⟨rfl, b1⟩
  have BL := Lib.hid (bl.trans (b1.mono bl.size))
  have KA := Lib.hid (ka.past b1)
  have KB := Lib.hid (kb.past b1)
  clear bl ka kb b1 s1
  have NE : Hid (w.heap.size ≠ w.heap.size + 1) := Lib.hid (by omega)
  have LE : Hid (w.heap.size ≤ w.heap.size + 1) := Lib.hid (by omega)
  go_upto_region 4 with fail
  generalize w.heap.size + 1 = g2 at *
  generalize hg : w.heap.size = g at *
  have HG := Lib.hid hg
  clear hg
  refine Hb.beginB (B := g) ?_
  replace BL : Hid (Below g w w1.drew) := Lib.hid (BL.out.drew)
  replace KA : Hid (Blk w1.drew g 23 (ecs a)) := Lib.hid KA.out.drew
  replace KB : Hid (Blk w1.drew g2 23 (ecs b)) := Lib.hid KB.out.drew
  generalize w1.drew = v0 at *
  refine Hb.two 0 2 ?_ ?_
  · skip
    refine Hb.pick 0 (some 9) rfl ?_
    refine wpList_runTo' rfl (ev a) _ (run_loadE KA.out.range rfl) ?_
    refine Hb.next (Below.refl _ _) (Nat.le_refl _) ?_ (by simp only [Act.put, List.setIfInBounds_toArray, List.set_cons_succ, List.set_cons_zero]; rfl)
    refine Hb.two 1 2 ?_ ?_
    · skip
      refine Hb.pickCall (f := 10) (args := #[ev a]) 1 10 rfl ?_ (run_callf Try.func10 (by kernel_rfl) (by kernel_rfl) (by simp only [List.map_toArray, List.map_cons, List.map_nil]; rfl))
      refine (lCut_c _ a).mono ?_
      rintro y va ⟨ta, rfl, -, -, ba⟩
      have BN := ba.mono (B' := g) (by have := BL.out.size; have := HG.out; omega)
      replace BL := Lib.hid (BL.out.trans BN)
      replace KA := Lib.hid (KA.out.past ba)
      replace KB := Lib.hid (KB.out.past ba)
      refine Hb.back BN (Nat.le_refl _) ?_ (by simp only [Act.put, List.setIfInBounds_toArray, List.set_cons_succ, List.set_cons_zero]; rfl)
      clear BN ba
      refine Hb.only 2 (some 11) rfl ?_
      refine wpList_runTo' rfl (ev b) _ (run_loadE KB.out.range rfl) ?_
      refine Hb.next (Below.refl _ _) (Nat.le_refl _) ?_ (by simp only [Act.put, List.setIfInBounds_toArray, List.set_cons_succ, List.set_cons_zero]; rfl)
      refine Hb.call (f := 10) (args := #[ev b]) 3 12 rfl ?_ (run_callf Try.func10 (by kernel_rfl) (by kernel_rfl) (by simp only [List.map_toArray, List.map_cons, List.map_nil]; rfl))
      refine (lCut_c _ b).mono ?_
      rintro y vb ⟨tb, rfl, -, -, bb⟩
      have BN := bb.mono (B' := g) (by have := BL.out.size; have := HG.out; omega)
      replace BL := Lib.hid (BL.out.trans BN)
      replace KA := Lib.hid (KA.out.past bb)
      replace KB := Lib.hid (KB.out.past bb)
      refine Hb.back BN (Nat.le_refl _) ?_ (by simp only [Act.put, List.setIfInBounds_toArray, List.set_cons_succ, List.set_cons_zero]; rfl)
      clear BN bb
      refine Hb.only 4 none rfl ?_
      refine wpList_store_row rfl 23 (.tmp 2) (.tmp 10) rfl g _ rfl rfl _ _ KA.out (by kernel_rfl) (by rfl) (by kernel_rfl) ?_
      have GG := grown_row vb g #[.int .i64 a.fr, .int .i64 a.boot, .int .i64 a.seq, .int .i64 a.ord, .int .i64 a.lev, .int .i64 a.stamp, .string ta]
      have BN := grown_below GG (Nat.le_refl g) (by have := BL.out.size; have := HG.out; omega)
      replace BL := Lib.hid (BL.out.trans BN)
      replace KB := Lib.hid (KB.out.far GG (Ne.symm NE.out))
      replace KA : Hid (Blk (vb.setRow g #[.int .i64 a.fr, .int .i64 a.boot, .int .i64 a.seq, .int .i64 a.ord, .int .i64 a.lev, .int .i64 a.stamp, .string ta]) g 23 (ecs (⟨a.fr, a.boot, a.seq, a.ord, a.lev, a.stamp, ta⟩ : Ent))) := Lib.hid (KA.out.row #[.int .i64 a.fr, .int .i64 a.boot, .int .i64 a.seq, .int .i64 a.ord, .int .i64 a.lev, .int .i64 a.stamp, .string ta])
      refine Hb.next BN (Nat.le_refl _) ?_ rfl
      clear BN GG
      generalize vb.setRow g #[.int .i64 a.fr, .int .i64 a.boot, .int .i64 a.seq, .int .i64 a.ord, .int .i64 a.lev, .int .i64 a.stamp, .string ta] = x4 at *
      refine Hb.only 5 none rfl ?_
      refine wpList_store_row rfl 23 (.tmp 3) (.tmp 12) rfl g2 _ rfl rfl _ _ KB.out (by kernel_rfl) (by rfl) (by kernel_rfl) ?_
      have GG := grown_row x4 g2 #[.int .i64 b.fr, .int .i64 b.boot, .int .i64 b.seq, .int .i64 b.ord, .int .i64 b.lev, .int .i64 b.stamp, .string tb]
      have BN := grown_below GG LE.out (by have := BL.out.size; have := HG.out; omega)
      replace BL := Lib.hid (BL.out.trans BN)
      replace KA := Lib.hid (KA.out.far GG NE.out)
      replace KB : Hid (Blk (x4.setRow g2 #[.int .i64 b.fr, .int .i64 b.boot, .int .i64 b.seq, .int .i64 b.ord, .int .i64 b.lev, .int .i64 b.stamp, .string tb]) g2 23 (ecs (⟨b.fr, b.boot, b.seq, b.ord, b.lev, b.stamp, tb⟩ : Ent))) := Lib.hid (KB.out.row #[.int .i64 b.fr, .int .i64 b.boot, .int .i64 b.seq, .int .i64 b.ord, .int .i64 b.lev, .int .i64 b.stamp, .string tb])
      refine Hb.next BN (Nat.le_refl _) ?_ rfl
      clear BN GG
      generalize x4.setRow g2 #[.int .i64 b.fr, .int .i64 b.boot, .int .i64 b.seq, .int .i64 b.ord, .int .i64 b.lev, .int .i64 b.stamp, .string tb] = x5 at *
      refine Hb.done ?_
      clear NE LE
      generalize (⟨a.fr, a.boot, a.seq, a.ord, a.lev, a.stamp, ta⟩ : Ent) = a1 at *
      generalize (⟨b.fr, b.boot, b.seq, b.ord, b.lev, b.stamp, tb⟩ : Ent) = b1 at *
      obtain ⟨mm, MM⟩ : ∃ m, Hid (PEnt.may a1 = m) := ⟨_, Lib.hid rfl⟩
      obtain ⟨ms, MS⟩ : ∃ m, Hid (PEnt.same a1 b1 = m) := ⟨_, Lib.hid rfl⟩
      obtain ⟨me, ME⟩ : ∃ m, Hid (PEnt.eqE a1 b1 = m) := ⟨_, Lib.hid rfl⟩
      have LA := Lib.hid (show g < x5.drew.heap.size from KA.out.lt)
      have LB := Lib.hid (show g2 < x5.drew.heap.size from KB.out.lt)
      have SZ := Lib.hid (Nat.le_refl x5.drew.heap.size)
      replace BL : Hid (Below g w x5.drew) := Lib.hid BL.out.drew
      replace KA := Lib.hid (show Blk x5.drew _ _ _ from KA.out.drew)
      replace KB := Lib.hid (show Blk x5.drew _ _ _ from KB.out.drew)
      go_upto_region 5 with fail
-- REGION curfew/curfewlaw12.EntryMay 5 emay5 6
      refine Hb.begin ?_
      refine Hb.take (v := ev a1) 0 13 rfl ?_ (fun w' hw' => by exact run_loadE ((KA.out.below hw' LA.out).range) rfl)
      refine Hb.take (v := ev a1) 2 15 rfl ?_ (fun w' hw' => by exact run_loadE ((KA.out.below hw' LA.out).range) rfl)
      refine Hb.call (f := 11) (args := #[ev a1]) 1 14 rfl ?_ (run_callf Try.func11 (by kernel_rfl) (by kernel_rfl) (by simp only [List.map_toArray, List.map_cons, List.map_nil]; rfl))
      refine (May_c _ a1).mono ?_
      rw [MM.out]
      rintro x u1 ⟨rfl, c1⟩
      have BN := c1.mono SZ.out
      have BL := Lib.hid (BL.out.trans (c1.mono (B' := g) (by have := LA.out; have := SZ.out; omega)))
      have SZ := Lib.hid (Nat.le_trans SZ.out c1.size)
      have KA := Lib.hid (KA.out.past c1)
      have KB := Lib.hid (KB.out.past c1)
      refine Hb.back BN (Nat.le_refl _) ?_
      refine Hb.call (f := 12) (args := #[ev a1]) 3 16 rfl ?_ (run_callf Try.func12 (by kernel_rfl) (by kernel_rfl) (by simp only [List.map_toArray, List.map_cons, List.map_nil]; rfl))
      refine (rMay_c _ a1).mono ?_
      rw [MM.out]
      rintro x u2 ⟨rfl, c2⟩
      have BN := c2.mono SZ.out
      have BL := Lib.hid (BL.out.trans (c2.mono (B' := g) (by have := LA.out; have := SZ.out; omega)))
      have SZ := Lib.hid (Nat.le_trans SZ.out c2.size)
      have KA := Lib.hid (KA.out.past c2)
      have KB := Lib.hid (KB.out.past c2)
      refine Hb.back BN (Nat.le_refl _) ?_
      refine Hb.take (v := .bool true) 4 17 rfl ?_ (fun w' hw' => by go_simp; first | done | rfl | omega | exact wrap_in (by omega) (by omega) | exact Int.tmod_eq_emod_of_nonneg (by omega) | exact Int.tdiv_eq_ediv_of_nonneg (by omega) | (simp; omega))
      refine Hb.take (v := .bool true) 5 18 rfl ?_ (fun _ _ => rfl)
      refine Hb.take (v := ev a1) 6 19 rfl ?_ (fun w' hw' => by exact run_loadE ((KA.out.below hw' LA.out).range) rfl)
      refine Hb.take (v := ev b1) 7 20 rfl ?_ (fun w' hw' => by exact run_loadE ((KB.out.below hw' LB.out).range) rfl)
      refine Hb.take (v := ev a1) 9 22 rfl ?_ (fun w' hw' => by exact run_loadE ((KA.out.below hw' LA.out).range) rfl)
      refine Hb.take (v := ev b1) 10 23 rfl ?_ (fun w' hw' => by exact run_loadE ((KB.out.below hw' LB.out).range) rfl)
      refine Hb.call (f := 13) (args := #[ev a1, ev b1]) 8 21 rfl ?_ (run_callf Try.func13 (by kernel_rfl) (by kernel_rfl) (by simp only [List.map_toArray, List.map_cons, List.map_nil]; rfl))
      refine (Same_c _ a1 b1).mono ?_
      rw [MS.out]
      rintro x u3 ⟨rfl, c3⟩
      have BN := c3.mono SZ.out
      have BL := Lib.hid (BL.out.trans (c3.mono (B' := g) (by have := LA.out; have := SZ.out; omega)))
      have SZ := Lib.hid (Nat.le_trans SZ.out c3.size)
      have KA := Lib.hid (KA.out.past c3)
      have KB := Lib.hid (KB.out.past c3)
      refine Hb.back BN (Nat.le_refl _) ?_
      refine Hb.call (f := 14) (args := #[ev a1, ev b1]) 11 24 rfl ?_ (run_callf Try.func14 (by kernel_rfl) (by kernel_rfl) (by simp only [List.map_toArray, List.map_cons, List.map_nil]; rfl))
      refine (rSame_c _ a1 b1).mono ?_
      rw [MS.out]
      rintro x u4 ⟨rfl, c4⟩
      have BN := c4.mono SZ.out
      have BL := Lib.hid (BL.out.trans (c4.mono (B' := g) (by have := LA.out; have := SZ.out; omega)))
      have SZ := Lib.hid (Nat.le_trans SZ.out c4.size)
      have KA := Lib.hid (KA.out.past c4)
      have KB := Lib.hid (KB.out.past c4)
      refine Hb.back BN (Nat.le_refl _) ?_
      refine Hb.take (v := .bool true) 12 25 rfl ?_ (fun w' hw' => by go_simp; first | done | rfl | omega | exact wrap_in (by omega) (by omega) | exact Int.tmod_eq_emod_of_nonneg (by omega) | exact Int.tdiv_eq_ediv_of_nonneg (by omega) | (simp; omega))
      refine Hb.take (v := .bool true) 13 26 rfl ?_ (fun _ _ => rfl)
      refine Hb.take (v := .bool true) 14 27 rfl ?_ (fun _ _ => rfl)
      refine Hb.take (v := ev a1) 15 28 rfl ?_ (fun w' hw' => by exact run_loadE ((KA.out.below hw' LA.out).range) rfl)
      refine Hb.take (v := ev b1) 16 29 rfl ?_ (fun w' hw' => by exact run_loadE ((KB.out.below hw' LB.out).range) rfl)
      refine Hb.take (v := ev a1) 18 31 rfl ?_ (fun w' hw' => by exact run_loadE ((KA.out.below hw' LA.out).range) rfl)
      refine Hb.take (v := ev b1) 19 32 rfl ?_ (fun w' hw' => by exact run_loadE ((KB.out.below hw' LB.out).range) rfl)
      refine Hb.call (f := 15) (args := #[ev a1, ev b1]) 17 30 rfl ?_ (run_callf Try.func15 (by kernel_rfl) (by kernel_rfl) (by simp only [List.map_toArray, List.map_cons, List.map_nil]; rfl))
      refine (Eq_c _ a1 b1).mono ?_
      rw [ME.out]
      rintro x u5 ⟨rfl, c5⟩
      have BN := c5.mono SZ.out
      have BL := Lib.hid (BL.out.trans (c5.mono (B' := g) (by have := LA.out; have := SZ.out; omega)))
      have SZ := Lib.hid (Nat.le_trans SZ.out c5.size)
      have KA := Lib.hid (KA.out.past c5)
      have KB := Lib.hid (KB.out.past c5)
      refine Hb.back BN (Nat.le_refl _) ?_
      refine Hb.call (f := 16) (args := #[ev a1, ev b1]) 20 33 rfl ?_ (run_callf Try.func16 (by kernel_rfl) (by kernel_rfl) (by simp only [List.map_toArray, List.map_cons, List.map_nil]; rfl))
      refine (rEq_c _ a1 b1).mono ?_
      rw [ME.out]
      rintro x u6 ⟨rfl, c6⟩
      have BN := c6.mono SZ.out
      have BL := Lib.hid (BL.out.trans (c6.mono (B' := g) (by have := LA.out; have := SZ.out; omega)))
      have SZ := Lib.hid (Nat.le_trans SZ.out c6.size)
      have KA := Lib.hid (KA.out.past c6)
      have KB := Lib.hid (KB.out.past c6)
      refine Hb.back BN (Nat.le_refl _) ?_
      refine Hb.take (v := .bool true) 21 34 rfl ?_ (fun w' hw' => by go_simp; first | done | rfl | omega | exact wrap_in (by omega) (by omega) | exact Int.tmod_eq_emod_of_nonneg (by omega) | exact Int.tdiv_eq_ediv_of_nonneg (by omega) | (simp; omega))
      refine Hb.take (v := .bool true) 22 35 rfl ?_ (fun _ _ => rfl)
      refine Hb.take (v := .bool true) 23 4 rfl ?_ (fun _ _ => rfl)
      refine Hb.done ?_
-- END
      go_wp2_with fail
      go_ret
      exact ⟨rfl, by rw [HG.out]; exact BL.out⟩
    · skip
      refine Hb.pick 2 (some 11) rfl ?_
      refine wpList_runTo' rfl (ev b) _ (run_loadE KB.out.range rfl) ?_
      refine Hb.next (Below.refl _ _) (Nat.le_refl _) ?_ (by simp only [Act.put, List.setIfInBounds_toArray, List.set_cons_succ, List.set_cons_zero]; rfl)
      refine Hb.call (f := 10) (args := #[ev a]) 1 10 rfl ?_ (run_callf Try.func10 (by kernel_rfl) (by kernel_rfl) (by simp only [List.map_toArray, List.map_cons, List.map_nil]; rfl))
      refine (lCut_c _ a).mono ?_
      rintro y va ⟨ta, rfl, -, -, ba⟩
      have BN := ba.mono (B' := g) (by have := BL.out.size; have := HG.out; omega)
      replace BL := Lib.hid (BL.out.trans BN)
      replace KA := Lib.hid (KA.out.past ba)
      replace KB := Lib.hid (KB.out.past ba)
      refine Hb.back BN (Nat.le_refl _) ?_ (by simp only [Act.put, List.setIfInBounds_toArray, List.set_cons_succ, List.set_cons_zero]; rfl)
      clear BN ba
      refine Hb.call (f := 10) (args := #[ev b]) 3 12 rfl ?_ (run_callf Try.func10 (by kernel_rfl) (by kernel_rfl) (by simp only [List.map_toArray, List.map_cons, List.map_nil]; rfl))
      refine (lCut_c _ b).mono ?_
      rintro y vb ⟨tb, rfl, -, -, bb⟩
      have BN := bb.mono (B' := g) (by have := BL.out.size; have := HG.out; omega)
      replace BL := Lib.hid (BL.out.trans BN)
      replace KA := Lib.hid (KA.out.past bb)
      replace KB := Lib.hid (KB.out.past bb)
      refine Hb.back BN (Nat.le_refl _) ?_ (by simp only [Act.put, List.setIfInBounds_toArray, List.set_cons_succ, List.set_cons_zero]; rfl)
      clear BN bb
      refine Hb.only 4 none rfl ?_
      refine wpList_store_row rfl 23 (.tmp 2) (.tmp 10) rfl g _ rfl rfl _ _ KA.out (by kernel_rfl) (by rfl) (by kernel_rfl) ?_
      have GG := grown_row vb g #[.int .i64 a.fr, .int .i64 a.boot, .int .i64 a.seq, .int .i64 a.ord, .int .i64 a.lev, .int .i64 a.stamp, .string ta]
      have BN := grown_below GG (Nat.le_refl g) (by have := BL.out.size; have := HG.out; omega)
      replace BL := Lib.hid (BL.out.trans BN)
      replace KB := Lib.hid (KB.out.far GG (Ne.symm NE.out))
      replace KA : Hid (Blk (vb.setRow g #[.int .i64 a.fr, .int .i64 a.boot, .int .i64 a.seq, .int .i64 a.ord, .int .i64 a.lev, .int .i64 a.stamp, .string ta]) g 23 (ecs (⟨a.fr, a.boot, a.seq, a.ord, a.lev, a.stamp, ta⟩ : Ent))) := Lib.hid (KA.out.row #[.int .i64 a.fr, .int .i64 a.boot, .int .i64 a.seq, .int .i64 a.ord, .int .i64 a.lev, .int .i64 a.stamp, .string ta])
      refine Hb.next BN (Nat.le_refl _) ?_ rfl
      clear BN GG
      generalize vb.setRow g #[.int .i64 a.fr, .int .i64 a.boot, .int .i64 a.seq, .int .i64 a.ord, .int .i64 a.lev, .int .i64 a.stamp, .string ta] = x4 at *
      refine Hb.only 5 none rfl ?_
      refine wpList_store_row rfl 23 (.tmp 3) (.tmp 12) rfl g2 _ rfl rfl _ _ KB.out (by kernel_rfl) (by rfl) (by kernel_rfl) ?_
      have GG := grown_row x4 g2 #[.int .i64 b.fr, .int .i64 b.boot, .int .i64 b.seq, .int .i64 b.ord, .int .i64 b.lev, .int .i64 b.stamp, .string tb]
      have BN := grown_below GG LE.out (by have := BL.out.size; have := HG.out; omega)
      replace BL := Lib.hid (BL.out.trans BN)
      replace KA := Lib.hid (KA.out.far GG NE.out)
      replace KB : Hid (Blk (x4.setRow g2 #[.int .i64 b.fr, .int .i64 b.boot, .int .i64 b.seq, .int .i64 b.ord, .int .i64 b.lev, .int .i64 b.stamp, .string tb]) g2 23 (ecs (⟨b.fr, b.boot, b.seq, b.ord, b.lev, b.stamp, tb⟩ : Ent))) := Lib.hid (KB.out.row #[.int .i64 b.fr, .int .i64 b.boot, .int .i64 b.seq, .int .i64 b.ord, .int .i64 b.lev, .int .i64 b.stamp, .string tb])
      refine Hb.next BN (Nat.le_refl _) ?_ rfl
      clear BN GG
      generalize x4.setRow g2 #[.int .i64 b.fr, .int .i64 b.boot, .int .i64 b.seq, .int .i64 b.ord, .int .i64 b.lev, .int .i64 b.stamp, .string tb] = x5 at *
      refine Hb.done ?_
      clear NE LE
      generalize (⟨a.fr, a.boot, a.seq, a.ord, a.lev, a.stamp, ta⟩ : Ent) = a1 at *
      generalize (⟨b.fr, b.boot, b.seq, b.ord, b.lev, b.stamp, tb⟩ : Ent) = b1 at *
      obtain ⟨mm, MM⟩ : ∃ m, Hid (PEnt.may a1 = m) := ⟨_, Lib.hid rfl⟩
      obtain ⟨ms, MS⟩ : ∃ m, Hid (PEnt.same a1 b1 = m) := ⟨_, Lib.hid rfl⟩
      obtain ⟨me, ME⟩ : ∃ m, Hid (PEnt.eqE a1 b1 = m) := ⟨_, Lib.hid rfl⟩
      have LA := Lib.hid (show g < x5.drew.heap.size from KA.out.lt)
      have LB := Lib.hid (show g2 < x5.drew.heap.size from KB.out.lt)
      have SZ := Lib.hid (Nat.le_refl x5.drew.heap.size)
      replace BL : Hid (Below g w x5.drew) := Lib.hid BL.out.drew
      replace KA := Lib.hid (show Blk x5.drew _ _ _ from KA.out.drew)
      replace KB := Lib.hid (show Blk x5.drew _ _ _ from KB.out.drew)
      go_upto_region 5 with fail
-- REGION curfew/curfewlaw12.EntryMay 5 emay5 6
      refine Hb.begin ?_
      refine Hb.take (v := ev a1) 0 13 rfl ?_ (fun w' hw' => by exact run_loadE ((KA.out.below hw' LA.out).range) rfl)
      refine Hb.take (v := ev a1) 2 15 rfl ?_ (fun w' hw' => by exact run_loadE ((KA.out.below hw' LA.out).range) rfl)
      refine Hb.call (f := 11) (args := #[ev a1]) 1 14 rfl ?_ (run_callf Try.func11 (by kernel_rfl) (by kernel_rfl) (by simp only [List.map_toArray, List.map_cons, List.map_nil]; rfl))
      refine (May_c _ a1).mono ?_
      rw [MM.out]
      rintro x u1 ⟨rfl, c1⟩
      have BN := c1.mono SZ.out
      have BL := Lib.hid (BL.out.trans (c1.mono (B' := g) (by have := LA.out; have := SZ.out; omega)))
      have SZ := Lib.hid (Nat.le_trans SZ.out c1.size)
      have KA := Lib.hid (KA.out.past c1)
      have KB := Lib.hid (KB.out.past c1)
      refine Hb.back BN (Nat.le_refl _) ?_
      refine Hb.call (f := 12) (args := #[ev a1]) 3 16 rfl ?_ (run_callf Try.func12 (by kernel_rfl) (by kernel_rfl) (by simp only [List.map_toArray, List.map_cons, List.map_nil]; rfl))
      refine (rMay_c _ a1).mono ?_
      rw [MM.out]
      rintro x u2 ⟨rfl, c2⟩
      have BN := c2.mono SZ.out
      have BL := Lib.hid (BL.out.trans (c2.mono (B' := g) (by have := LA.out; have := SZ.out; omega)))
      have SZ := Lib.hid (Nat.le_trans SZ.out c2.size)
      have KA := Lib.hid (KA.out.past c2)
      have KB := Lib.hid (KB.out.past c2)
      refine Hb.back BN (Nat.le_refl _) ?_
      refine Hb.take (v := .bool true) 4 17 rfl ?_ (fun w' hw' => by go_simp; first | done | rfl | omega | exact wrap_in (by omega) (by omega) | exact Int.tmod_eq_emod_of_nonneg (by omega) | exact Int.tdiv_eq_ediv_of_nonneg (by omega) | (simp; omega))
      refine Hb.take (v := .bool true) 5 18 rfl ?_ (fun _ _ => rfl)
      refine Hb.take (v := ev a1) 6 19 rfl ?_ (fun w' hw' => by exact run_loadE ((KA.out.below hw' LA.out).range) rfl)
      refine Hb.take (v := ev b1) 7 20 rfl ?_ (fun w' hw' => by exact run_loadE ((KB.out.below hw' LB.out).range) rfl)
      refine Hb.take (v := ev a1) 9 22 rfl ?_ (fun w' hw' => by exact run_loadE ((KA.out.below hw' LA.out).range) rfl)
      refine Hb.take (v := ev b1) 10 23 rfl ?_ (fun w' hw' => by exact run_loadE ((KB.out.below hw' LB.out).range) rfl)
      refine Hb.call (f := 13) (args := #[ev a1, ev b1]) 8 21 rfl ?_ (run_callf Try.func13 (by kernel_rfl) (by kernel_rfl) (by simp only [List.map_toArray, List.map_cons, List.map_nil]; rfl))
      refine (Same_c _ a1 b1).mono ?_
      rw [MS.out]
      rintro x u3 ⟨rfl, c3⟩
      have BN := c3.mono SZ.out
      have BL := Lib.hid (BL.out.trans (c3.mono (B' := g) (by have := LA.out; have := SZ.out; omega)))
      have SZ := Lib.hid (Nat.le_trans SZ.out c3.size)
      have KA := Lib.hid (KA.out.past c3)
      have KB := Lib.hid (KB.out.past c3)
      refine Hb.back BN (Nat.le_refl _) ?_
      refine Hb.call (f := 14) (args := #[ev a1, ev b1]) 11 24 rfl ?_ (run_callf Try.func14 (by kernel_rfl) (by kernel_rfl) (by simp only [List.map_toArray, List.map_cons, List.map_nil]; rfl))
      refine (rSame_c _ a1 b1).mono ?_
      rw [MS.out]
      rintro x u4 ⟨rfl, c4⟩
      have BN := c4.mono SZ.out
      have BL := Lib.hid (BL.out.trans (c4.mono (B' := g) (by have := LA.out; have := SZ.out; omega)))
      have SZ := Lib.hid (Nat.le_trans SZ.out c4.size)
      have KA := Lib.hid (KA.out.past c4)
      have KB := Lib.hid (KB.out.past c4)
      refine Hb.back BN (Nat.le_refl _) ?_
      refine Hb.take (v := .bool true) 12 25 rfl ?_ (fun w' hw' => by go_simp; first | done | rfl | omega | exact wrap_in (by omega) (by omega) | exact Int.tmod_eq_emod_of_nonneg (by omega) | exact Int.tdiv_eq_ediv_of_nonneg (by omega) | (simp; omega))
      refine Hb.take (v := .bool true) 13 26 rfl ?_ (fun _ _ => rfl)
      refine Hb.take (v := .bool true) 14 27 rfl ?_ (fun _ _ => rfl)
      refine Hb.take (v := ev a1) 15 28 rfl ?_ (fun w' hw' => by exact run_loadE ((KA.out.below hw' LA.out).range) rfl)
      refine Hb.take (v := ev b1) 16 29 rfl ?_ (fun w' hw' => by exact run_loadE ((KB.out.below hw' LB.out).range) rfl)
      refine Hb.take (v := ev a1) 18 31 rfl ?_ (fun w' hw' => by exact run_loadE ((KA.out.below hw' LA.out).range) rfl)
      refine Hb.take (v := ev b1) 19 32 rfl ?_ (fun w' hw' => by exact run_loadE ((KB.out.below hw' LB.out).range) rfl)
      refine Hb.call (f := 15) (args := #[ev a1, ev b1]) 17 30 rfl ?_ (run_callf Try.func15 (by kernel_rfl) (by kernel_rfl) (by simp only [List.map_toArray, List.map_cons, List.map_nil]; rfl))
      refine (Eq_c _ a1 b1).mono ?_
      rw [ME.out]
      rintro x u5 ⟨rfl, c5⟩
      have BN := c5.mono SZ.out
      have BL := Lib.hid (BL.out.trans (c5.mono (B' := g) (by have := LA.out; have := SZ.out; omega)))
      have SZ := Lib.hid (Nat.le_trans SZ.out c5.size)
      have KA := Lib.hid (KA.out.past c5)
      have KB := Lib.hid (KB.out.past c5)
      refine Hb.back BN (Nat.le_refl _) ?_
      refine Hb.call (f := 16) (args := #[ev a1, ev b1]) 20 33 rfl ?_ (run_callf Try.func16 (by kernel_rfl) (by kernel_rfl) (by simp only [List.map_toArray, List.map_cons, List.map_nil]; rfl))
      refine (rEq_c _ a1 b1).mono ?_
      rw [ME.out]
      rintro x u6 ⟨rfl, c6⟩
      have BN := c6.mono SZ.out
      have BL := Lib.hid (BL.out.trans (c6.mono (B' := g) (by have := LA.out; have := SZ.out; omega)))
      have SZ := Lib.hid (Nat.le_trans SZ.out c6.size)
      have KA := Lib.hid (KA.out.past c6)
      have KB := Lib.hid (KB.out.past c6)
      refine Hb.back BN (Nat.le_refl _) ?_
      refine Hb.take (v := .bool true) 21 34 rfl ?_ (fun w' hw' => by go_simp; first | done | rfl | omega | exact wrap_in (by omega) (by omega) | exact Int.tmod_eq_emod_of_nonneg (by omega) | exact Int.tdiv_eq_ediv_of_nonneg (by omega) | (simp; omega))
      refine Hb.take (v := .bool true) 22 35 rfl ?_ (fun _ _ => rfl)
      refine Hb.take (v := .bool true) 23 4 rfl ?_ (fun _ _ => rfl)
      refine Hb.done ?_
-- END
      go_wp2_with fail
      go_ret
      exact ⟨rfl, by rw [HG.out]; exact BL.out⟩
  · skip
    refine Hb.pick 2 (some 11) rfl ?_
    refine wpList_runTo' rfl (ev b) _ (run_loadE KB.out.range rfl) ?_
    refine Hb.next (Below.refl _ _) (Nat.le_refl _) ?_ (by simp only [Act.put, List.setIfInBounds_toArray, List.set_cons_succ, List.set_cons_zero]; rfl)
    refine Hb.only 0 (some 9) rfl ?_
    refine wpList_runTo' rfl (ev a) _ (run_loadE KA.out.range rfl) ?_
    refine Hb.next (Below.refl _ _) (Nat.le_refl _) ?_ (by simp only [Act.put, List.setIfInBounds_toArray, List.set_cons_succ, List.set_cons_zero]; rfl)
    refine Hb.call (f := 10) (args := #[ev a]) 1 10 rfl ?_ (run_callf Try.func10 (by kernel_rfl) (by kernel_rfl) (by simp only [List.map_toArray, List.map_cons, List.map_nil]; rfl))
    refine (lCut_c _ a).mono ?_
    rintro y va ⟨ta, rfl, -, -, ba⟩
    have BN := ba.mono (B' := g) (by have := BL.out.size; have := HG.out; omega)
    replace BL := Lib.hid (BL.out.trans BN)
    replace KA := Lib.hid (KA.out.past ba)
    replace KB := Lib.hid (KB.out.past ba)
    refine Hb.back BN (Nat.le_refl _) ?_ (by simp only [Act.put, List.setIfInBounds_toArray, List.set_cons_succ, List.set_cons_zero]; rfl)
    clear BN ba
    refine Hb.call (f := 10) (args := #[ev b]) 3 12 rfl ?_ (run_callf Try.func10 (by kernel_rfl) (by kernel_rfl) (by simp only [List.map_toArray, List.map_cons, List.map_nil]; rfl))
    refine (lCut_c _ b).mono ?_
    rintro y vb ⟨tb, rfl, -, -, bb⟩
    have BN := bb.mono (B' := g) (by have := BL.out.size; have := HG.out; omega)
    replace BL := Lib.hid (BL.out.trans BN)
    replace KA := Lib.hid (KA.out.past bb)
    replace KB := Lib.hid (KB.out.past bb)
    refine Hb.back BN (Nat.le_refl _) ?_ (by simp only [Act.put, List.setIfInBounds_toArray, List.set_cons_succ, List.set_cons_zero]; rfl)
    clear BN bb
    refine Hb.only 4 none rfl ?_
    refine wpList_store_row rfl 23 (.tmp 2) (.tmp 10) rfl g _ rfl rfl _ _ KA.out (by kernel_rfl) (by rfl) (by kernel_rfl) ?_
    have GG := grown_row vb g #[.int .i64 a.fr, .int .i64 a.boot, .int .i64 a.seq, .int .i64 a.ord, .int .i64 a.lev, .int .i64 a.stamp, .string ta]
    have BN := grown_below GG (Nat.le_refl g) (by have := BL.out.size; have := HG.out; omega)
    replace BL := Lib.hid (BL.out.trans BN)
    replace KB := Lib.hid (KB.out.far GG (Ne.symm NE.out))
    replace KA : Hid (Blk (vb.setRow g #[.int .i64 a.fr, .int .i64 a.boot, .int .i64 a.seq, .int .i64 a.ord, .int .i64 a.lev, .int .i64 a.stamp, .string ta]) g 23 (ecs (⟨a.fr, a.boot, a.seq, a.ord, a.lev, a.stamp, ta⟩ : Ent))) := Lib.hid (KA.out.row #[.int .i64 a.fr, .int .i64 a.boot, .int .i64 a.seq, .int .i64 a.ord, .int .i64 a.lev, .int .i64 a.stamp, .string ta])
    refine Hb.next BN (Nat.le_refl _) ?_ rfl
    clear BN GG
    generalize vb.setRow g #[.int .i64 a.fr, .int .i64 a.boot, .int .i64 a.seq, .int .i64 a.ord, .int .i64 a.lev, .int .i64 a.stamp, .string ta] = x4 at *
    refine Hb.only 5 none rfl ?_
    refine wpList_store_row rfl 23 (.tmp 3) (.tmp 12) rfl g2 _ rfl rfl _ _ KB.out (by kernel_rfl) (by rfl) (by kernel_rfl) ?_
    have GG := grown_row x4 g2 #[.int .i64 b.fr, .int .i64 b.boot, .int .i64 b.seq, .int .i64 b.ord, .int .i64 b.lev, .int .i64 b.stamp, .string tb]
    have BN := grown_below GG LE.out (by have := BL.out.size; have := HG.out; omega)
    replace BL := Lib.hid (BL.out.trans BN)
    replace KA := Lib.hid (KA.out.far GG NE.out)
    replace KB : Hid (Blk (x4.setRow g2 #[.int .i64 b.fr, .int .i64 b.boot, .int .i64 b.seq, .int .i64 b.ord, .int .i64 b.lev, .int .i64 b.stamp, .string tb]) g2 23 (ecs (⟨b.fr, b.boot, b.seq, b.ord, b.lev, b.stamp, tb⟩ : Ent))) := Lib.hid (KB.out.row #[.int .i64 b.fr, .int .i64 b.boot, .int .i64 b.seq, .int .i64 b.ord, .int .i64 b.lev, .int .i64 b.stamp, .string tb])
    refine Hb.next BN (Nat.le_refl _) ?_ rfl
    clear BN GG
    generalize x4.setRow g2 #[.int .i64 b.fr, .int .i64 b.boot, .int .i64 b.seq, .int .i64 b.ord, .int .i64 b.lev, .int .i64 b.stamp, .string tb] = x5 at *
    refine Hb.done ?_
    clear NE LE
    generalize (⟨a.fr, a.boot, a.seq, a.ord, a.lev, a.stamp, ta⟩ : Ent) = a1 at *
    generalize (⟨b.fr, b.boot, b.seq, b.ord, b.lev, b.stamp, tb⟩ : Ent) = b1 at *
    obtain ⟨mm, MM⟩ : ∃ m, Hid (PEnt.may a1 = m) := ⟨_, Lib.hid rfl⟩
    obtain ⟨ms, MS⟩ : ∃ m, Hid (PEnt.same a1 b1 = m) := ⟨_, Lib.hid rfl⟩
    obtain ⟨me, ME⟩ : ∃ m, Hid (PEnt.eqE a1 b1 = m) := ⟨_, Lib.hid rfl⟩
    have LA := Lib.hid (show g < x5.drew.heap.size from KA.out.lt)
    have LB := Lib.hid (show g2 < x5.drew.heap.size from KB.out.lt)
    have SZ := Lib.hid (Nat.le_refl x5.drew.heap.size)
    replace BL : Hid (Below g w x5.drew) := Lib.hid BL.out.drew
    replace KA := Lib.hid (show Blk x5.drew _ _ _ from KA.out.drew)
    replace KB := Lib.hid (show Blk x5.drew _ _ _ from KB.out.drew)
    go_upto_region 5 with fail
-- REGION curfew/curfewlaw12.EntryMay 5 emay5 4
    refine Hb.begin ?_
    refine Hb.take (v := ev a1) 0 13 rfl ?_ (fun w' hw' => by exact run_loadE ((KA.out.below hw' LA.out).range) rfl)
    refine Hb.take (v := ev a1) 2 15 rfl ?_ (fun w' hw' => by exact run_loadE ((KA.out.below hw' LA.out).range) rfl)
    refine Hb.call (f := 11) (args := #[ev a1]) 1 14 rfl ?_ (run_callf Try.func11 (by kernel_rfl) (by kernel_rfl) (by simp only [List.map_toArray, List.map_cons, List.map_nil]; rfl))
    refine (May_c _ a1).mono ?_
    rw [MM.out]
    rintro x u1 ⟨rfl, c1⟩
    have BN := c1.mono SZ.out
    have BL := Lib.hid (BL.out.trans (c1.mono (B' := g) (by have := LA.out; have := SZ.out; omega)))
    have SZ := Lib.hid (Nat.le_trans SZ.out c1.size)
    have KA := Lib.hid (KA.out.past c1)
    have KB := Lib.hid (KB.out.past c1)
    refine Hb.back BN (Nat.le_refl _) ?_
    refine Hb.call (f := 12) (args := #[ev a1]) 3 16 rfl ?_ (run_callf Try.func12 (by kernel_rfl) (by kernel_rfl) (by simp only [List.map_toArray, List.map_cons, List.map_nil]; rfl))
    refine (rMay_c _ a1).mono ?_
    rw [MM.out]
    rintro x u2 ⟨rfl, c2⟩
    have BN := c2.mono SZ.out
    have BL := Lib.hid (BL.out.trans (c2.mono (B' := g) (by have := LA.out; have := SZ.out; omega)))
    have SZ := Lib.hid (Nat.le_trans SZ.out c2.size)
    have KA := Lib.hid (KA.out.past c2)
    have KB := Lib.hid (KB.out.past c2)
    refine Hb.back BN (Nat.le_refl _) ?_
    refine Hb.take (v := .bool true) 4 17 rfl ?_ (fun w' hw' => by go_simp; first | done | rfl | omega | exact wrap_in (by omega) (by omega) | exact Int.tmod_eq_emod_of_nonneg (by omega) | exact Int.tdiv_eq_ediv_of_nonneg (by omega) | (simp; omega))
    refine Hb.take (v := .bool true) 5 18 rfl ?_ (fun _ _ => rfl)
    refine Hb.take (v := ev a1) 6 19 rfl ?_ (fun w' hw' => by exact run_loadE ((KA.out.below hw' LA.out).range) rfl)
    refine Hb.take (v := ev b1) 7 20 rfl ?_ (fun w' hw' => by exact run_loadE ((KB.out.below hw' LB.out).range) rfl)
    refine Hb.take (v := ev a1) 9 22 rfl ?_ (fun w' hw' => by exact run_loadE ((KA.out.below hw' LA.out).range) rfl)
    refine Hb.take (v := ev b1) 10 23 rfl ?_ (fun w' hw' => by exact run_loadE ((KB.out.below hw' LB.out).range) rfl)
    refine Hb.call (f := 13) (args := #[ev a1, ev b1]) 8 21 rfl ?_ (run_callf Try.func13 (by kernel_rfl) (by kernel_rfl) (by simp only [List.map_toArray, List.map_cons, List.map_nil]; rfl))
    refine (Same_c _ a1 b1).mono ?_
    rw [MS.out]
    rintro x u3 ⟨rfl, c3⟩
    have BN := c3.mono SZ.out
    have BL := Lib.hid (BL.out.trans (c3.mono (B' := g) (by have := LA.out; have := SZ.out; omega)))
    have SZ := Lib.hid (Nat.le_trans SZ.out c3.size)
    have KA := Lib.hid (KA.out.past c3)
    have KB := Lib.hid (KB.out.past c3)
    refine Hb.back BN (Nat.le_refl _) ?_
    refine Hb.call (f := 14) (args := #[ev a1, ev b1]) 11 24 rfl ?_ (run_callf Try.func14 (by kernel_rfl) (by kernel_rfl) (by simp only [List.map_toArray, List.map_cons, List.map_nil]; rfl))
    refine (rSame_c _ a1 b1).mono ?_
    rw [MS.out]
    rintro x u4 ⟨rfl, c4⟩
    have BN := c4.mono SZ.out
    have BL := Lib.hid (BL.out.trans (c4.mono (B' := g) (by have := LA.out; have := SZ.out; omega)))
    have SZ := Lib.hid (Nat.le_trans SZ.out c4.size)
    have KA := Lib.hid (KA.out.past c4)
    have KB := Lib.hid (KB.out.past c4)
    refine Hb.back BN (Nat.le_refl _) ?_
    refine Hb.take (v := .bool true) 12 25 rfl ?_ (fun w' hw' => by go_simp; first | done | rfl | omega | exact wrap_in (by omega) (by omega) | exact Int.tmod_eq_emod_of_nonneg (by omega) | exact Int.tdiv_eq_ediv_of_nonneg (by omega) | (simp; omega))
    refine Hb.take (v := .bool true) 13 26 rfl ?_ (fun _ _ => rfl)
    refine Hb.take (v := .bool true) 14 27 rfl ?_ (fun _ _ => rfl)
    refine Hb.take (v := ev a1) 15 28 rfl ?_ (fun w' hw' => by exact run_loadE ((KA.out.below hw' LA.out).range) rfl)
    refine Hb.take (v := ev b1) 16 29 rfl ?_ (fun w' hw' => by exact run_loadE ((KB.out.below hw' LB.out).range) rfl)
    refine Hb.take (v := ev a1) 18 31 rfl ?_ (fun w' hw' => by exact run_loadE ((KA.out.below hw' LA.out).range) rfl)
    refine Hb.take (v := ev b1) 19 32 rfl ?_ (fun w' hw' => by exact run_loadE ((KB.out.below hw' LB.out).range) rfl)
    refine Hb.call (f := 15) (args := #[ev a1, ev b1]) 17 30 rfl ?_ (run_callf Try.func15 (by kernel_rfl) (by kernel_rfl) (by simp only [List.map_toArray, List.map_cons, List.map_nil]; rfl))
    refine (Eq_c _ a1 b1).mono ?_
    rw [ME.out]
    rintro x u5 ⟨rfl, c5⟩
    have BN := c5.mono SZ.out
    have BL := Lib.hid (BL.out.trans (c5.mono (B' := g) (by have := LA.out; have := SZ.out; omega)))
    have SZ := Lib.hid (Nat.le_trans SZ.out c5.size)
    have KA := Lib.hid (KA.out.past c5)
    have KB := Lib.hid (KB.out.past c5)
    refine Hb.back BN (Nat.le_refl _) ?_
    refine Hb.call (f := 16) (args := #[ev a1, ev b1]) 20 33 rfl ?_ (run_callf Try.func16 (by kernel_rfl) (by kernel_rfl) (by simp only [List.map_toArray, List.map_cons, List.map_nil]; rfl))
    refine (rEq_c _ a1 b1).mono ?_
    rw [ME.out]
    rintro x u6 ⟨rfl, c6⟩
    have BN := c6.mono SZ.out
    have BL := Lib.hid (BL.out.trans (c6.mono (B' := g) (by have := LA.out; have := SZ.out; omega)))
    have SZ := Lib.hid (Nat.le_trans SZ.out c6.size)
    have KA := Lib.hid (KA.out.past c6)
    have KB := Lib.hid (KB.out.past c6)
    refine Hb.back BN (Nat.le_refl _) ?_
    refine Hb.take (v := .bool true) 21 34 rfl ?_ (fun w' hw' => by go_simp; first | done | rfl | omega | exact wrap_in (by omega) (by omega) | exact Int.tmod_eq_emod_of_nonneg (by omega) | exact Int.tdiv_eq_ediv_of_nonneg (by omega) | (simp; omega))
    refine Hb.take (v := .bool true) 22 35 rfl ?_ (fun _ _ => rfl)
    refine Hb.take (v := .bool true) 23 4 rfl ?_ (fun _ _ => rfl)
    refine Hb.done ?_
-- END
    go_wp2_with fail
    go_ret
    exact ⟨rfl, by rw [HG.out]; exact BL.out⟩
end Go.Proofs.Ytoflbgmmnljloaa
