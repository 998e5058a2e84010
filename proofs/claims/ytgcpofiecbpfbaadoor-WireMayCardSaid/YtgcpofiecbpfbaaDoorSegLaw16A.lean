/- The walk of WireMay. -/
import Derived.Test.YtgcpofiecbpfbaaDoorSeg9
import Derived.Test.YtgcpofiecbpfbaaDoorSeg11
import Derived.Test.YtgcpofiecbpfbaaDoorSeg1
import Derived.Deep.CutRange
namespace Go.Proofs.YtgcpofiecbpfbaaDoor
open Go.RowKit

set_option maxHeartbeats 8000000 in
set_option maxRecDepth 100000 in
theorem WireMay_w (w : World) (ht : Tab w) (a : Msg) (A : Option Addr) (ca : Nat) (b : Msg) (A2 : Option Addr) (cb : Nat) (ra : Rd w w.heap.size A ca 7 a.es.length (els a.es)) (oa : MsgOk a) (rb : Rd w w.heap.size A2 cb 7 b.es.length (els b.es)) (ob : MsgOk b) :
    Calls Tryd.prog 3 #[mv a A ca, mv b A2 cb] w fun x w' => x = .returned (.bool true) ∧ Below w.heap.size w w' := by
  have OKA := Lib.hid oa
  have OKB := Lib.hid ob
  have RA := Lib.hid ra
  have RB := Lib.hid rb
  have HT := Lib.hid ht
  clear oa ob ra rb ht
  show Calls _ _ #[.agg #[.int .i64 a.kind, .int .i64 a.fr, .int .i64 a.dst, .int .i64 a.boot, .int .i64 a.view, .int .i64 a.last, .int .i64 a.mem, .int .i64 a.pos, .slice A a.es.length ca, .int .i64 a.com, .int .i64 a.num, .int .i64 a.clk, .bool a.yes], .agg #[.int .i64 b.kind, .int .i64 b.fr, .int .i64 b.dst, .int .i64 b.boot, .int .i64 b.view, .int .i64 b.last, .int .i64 b.mem, .int .i64 b.pos, .slice A2 b.es.length cb, .int .i64 b.com, .int .i64 b.num, .int .i64 b.clk, .bool b.yes]] _ _
  go_enter Tryd.func3, Tryd.ntmps3
  go_wp2_with fail
  have s1 : (w.alloc (.cells #[.int .i64 a.kind, .int .i64 a.fr, .int .i64 a.dst, .int .i64 a.boot, .int .i64 a.view, .int .i64 a.last, .int .i64 a.mem, .int .i64 a.pos, .slice A a.es.length ca, .int .i64 a.com, .int .i64 a.num, .int .i64 a.clk, .bool a.yes] 24)).heap.size = w.heap.size + 1 := by simp
  have bl := ((Below.refl w.heap.size w).alloc (Nat.le_refl _) (.cells #[.int .i64 a.kind, .int .i64 a.fr, .int .i64 a.dst, .int .i64 a.boot, .int .i64 a.view, .int .i64 a.last, .int .i64 a.mem, .int .i64 a.pos, .slice A a.es.length ca, .int .i64 a.com, .int .i64 a.num, .int .i64 a.clk, .bool a.yes] 24)).alloc (by rw [s1]; omega) (.cells #[.int .i64 b.kind, .int .i64 b.fr, .int .i64 b.dst, .int .i64 b.boot, .int .i64 b.view, .int .i64 b.last, .int .i64 b.mem, .int .i64 b.pos, .slice A2 b.es.length cb, .int .i64 b.com, .int .i64 b.num, .int .i64 b.clk, .bool b.yes] 24)
  have ka := (Blk.new w #[.int .i64 a.kind, .int .i64 a.fr, .int .i64 a.dst, .int .i64 a.boot, .int .i64 a.view, .int .i64 a.last, .int .i64 a.mem, .int .i64 a.pos, .slice A a.es.length ca, .int .i64 a.com, .int .i64 a.num, .int .i64 a.clk, .bool a.yes] 24).alloc (.cells #[.int .i64 b.kind, .int .i64 b.fr, .int .i64 b.dst, .int .i64 b.boot, .int .i64 b.view, .int .i64 b.last, .int .i64 b.mem, .int .i64 b.pos, .slice A2 b.es.length cb, .int .i64 b.com, .int .i64 b.num, .int .i64 b.clk, .bool b.yes] 24)
  have kb := Blk.new (w.alloc (.cells #[.int .i64 a.kind, .int .i64 a.fr, .int .i64 a.dst, .int .i64 a.boot, .int .i64 a.view, .int .i64 a.last, .int .i64 a.mem, .int .i64 a.pos, .slice A a.es.length ca, .int .i64 a.com, .int .i64 a.num, .int .i64 a.clk, .bool a.yes] 24)) #[.int .i64 b.kind, .int .i64 b.fr, .int .i64 b.dst, .int .i64 b.boot, .int .i64 b.view, .int .i64 b.last, .int .i64 b.mem, .int .i64 b.pos, .slice A2 b.es.length cb, .int .i64 b.com, .int .i64 b.num, .int .i64 b.clk, .bool b.yes] 24
  rw [s1] at kb
  refine (begunM_c _ (HT.out.past bl)).mono ?_
  rintro x w1 ⟨rfl, b1⟩
  have BL := Lib.hid (bl.trans (b1.mono bl.size))
  have KA := Lib.hid (show Blk w1 w.heap.size 24 (mcs a A ca) from ka.past b1)
  have KB := Lib.hid (show Blk w1 (w.heap.size + 1) 24 (mcs b A2 cb) from kb.past b1)
  clear bl ka kb b1 s1
  have NE : Hid (w.heap.size ≠ w.heap.size + 1) := Lib.hid (by omega)
  have LE : Hid (w.heap.size ≤ w.heap.size + 1) := Lib.hid (by omega)
  go_upto_region 4 with fail
  generalize w.heap.size + 1 = g2 at *
  generalize hg : w.heap.size = g at *
  have HG := Lib.hid hg
  clear hg
  refine Hb.beginB (B := g) ?_
  replace BL : Hid (Below g w w1.drew) := Lib.hid (BL.out.drew)
  replace KA : Hid (Blk w1.drew g 24 (mcs a A ca)) := Lib.hid KA.out.drew
  replace KB : Hid (Blk w1.drew g2 24 (mcs b A2 cb)) := Lib.hid KB.out.drew
  generalize w1.drew = v0 at *
  refine Hb.two 0 2 ?_ ?_
  · skip
    refine Hb.pick 0 (some 9) rfl ?_
    refine wpList_runTo' rfl (mv a A ca) _ (run_loadM KA.out rfl) ?_
    refine Hb.next (Below.refl _ _) (Nat.le_refl _) ?_ (by simp only [Act.put, List.setIfInBounds_toArray, List.set_cons_succ, List.set_cons_zero]; rfl)
    refine Hb.two 1 2 ?_ ?_
    · skip
      refine Hb.pickCall (f := 10) (args := #[mv a A ca]) 1 10 rfl ?_ (run_callf Tryd.func10 (by kernel_rfl) (by kernel_rfl) (by simp only [List.map_toArray, List.map_cons, List.map_nil]; rfl))
      refine (lCutM_c _ a A ca ((RA.out.below BL.out).tight) OKA.out.ents).mono ?_
      rintro y va ⟨Aa, ca1, ea, rfl, -, owna, -, ba⟩
      have BN := ba.mono (B' := g) (by have := BL.out.size; have := HG.out; omega)
      have Pa := Lib.hid (own_from owna (by have := BL.out.size; have := HG.out; omega : g ≤ _))
      replace BL := Lib.hid (BL.out.trans BN)
      replace KA := Lib.hid (KA.out.past ba)
      replace KB := Lib.hid (KB.out.past ba)
      refine Hb.back BN (Nat.le_refl _) ?_ (by simp only [Act.put, List.setIfInBounds_toArray, List.set_cons_succ, List.set_cons_zero]; rfl)
      clear BN ba owna
      refine Hb.only 2 (some 11) rfl ?_
      refine wpList_runTo' rfl (mv b A2 cb) _ (run_loadM KB.out rfl) ?_
      refine Hb.next (Below.refl _ _) (Nat.le_refl _) ?_ (by simp only [Act.put, List.setIfInBounds_toArray, List.set_cons_succ, List.set_cons_zero]; rfl)
      refine Hb.call (f := 10) (args := #[mv b A2 cb]) 3 12 rfl ?_ (run_callf Tryd.func10 (by kernel_rfl) (by kernel_rfl) (by simp only [List.map_toArray, List.map_cons, List.map_nil]; rfl))
      refine (lCutM_c _ b A2 cb ((RB.out.below BL.out).tight) OKB.out.ents).mono ?_
      rintro y vb ⟨Ab, cb1, eb, rfl, -, ownb, -, bb⟩
      have BN := bb.mono (B' := g) (by have := BL.out.size; have := HG.out; omega)
      have Pb := Lib.hid (own_from ownb (by have := BL.out.size; have := HG.out; omega : g ≤ _))
      replace Pa := Lib.hid (own_below Pa.out bb)
      replace BL := Lib.hid (BL.out.trans BN)
      replace KA := Lib.hid (KA.out.past bb)
      replace KB := Lib.hid (KB.out.past bb)
      refine Hb.back BN (Nat.le_refl _) ?_ (by simp only [Act.put, List.setIfInBounds_toArray, List.set_cons_succ, List.set_cons_zero]; rfl)
      clear BN bb ownb
      refine Hb.only 4 none rfl ?_
      refine wpList_store_row rfl 24 (.tmp 2) (.tmp 10) rfl g _ rfl rfl _ _ KA.out (by kernel_rfl) (by rfl) (by kernel_rfl) ?_
      have GG := grown_row vb g #[.int .i64 (withE a ea).kind, .int .i64 (withE a ea).fr, .int .i64 (withE a ea).dst, .int .i64 (withE a ea).boot, .int .i64 (withE a ea).view, .int .i64 (withE a ea).last, .int .i64 (withE a ea).mem, .int .i64 (withE a ea).pos, .slice Aa (withE a ea).es.length ca1, .int .i64 (withE a ea).com, .int .i64 (withE a ea).num, .int .i64 (withE a ea).clk, .bool (withE a ea).yes]
      have BN := grown_below GG (Nat.le_refl g) (by have := BL.out.size; have := HG.out; omega)
      replace BL := Lib.hid (BL.out.trans BN)
      replace Pa := Lib.hid (own_apartB Pa.out KA.out (by decide) GG)
      replace Pb := Lib.hid (own_apartB Pb.out KA.out (by decide) GG)
      replace KB := Lib.hid (KB.out.far GG (Ne.symm NE.out))
      replace KA : Hid (Blk (vb.setRow g #[.int .i64 (withE a ea).kind, .int .i64 (withE a ea).fr, .int .i64 (withE a ea).dst, .int .i64 (withE a ea).boot, .int .i64 (withE a ea).view, .int .i64 (withE a ea).last, .int .i64 (withE a ea).mem, .int .i64 (withE a ea).pos, .slice Aa (withE a ea).es.length ca1, .int .i64 (withE a ea).com, .int .i64 (withE a ea).num, .int .i64 (withE a ea).clk, .bool (withE a ea).yes]) g 24 (mcs (withE a ea) Aa ca1)) := Lib.hid (KA.out.row #[.int .i64 (withE a ea).kind, .int .i64 (withE a ea).fr, .int .i64 (withE a ea).dst, .int .i64 (withE a ea).boot, .int .i64 (withE a ea).view, .int .i64 (withE a ea).last, .int .i64 (withE a ea).mem, .int .i64 (withE a ea).pos, .slice Aa (withE a ea).es.length ca1, .int .i64 (withE a ea).com, .int .i64 (withE a ea).num, .int .i64 (withE a ea).clk, .bool (withE a ea).yes])
      refine Hb.next BN (Nat.le_refl _) ?_ rfl
      clear BN GG
      generalize vb.setRow g #[.int .i64 (withE a ea).kind, .int .i64 (withE a ea).fr, .int .i64 (withE a ea).dst, .int .i64 (withE a ea).boot, .int .i64 (withE a ea).view, .int .i64 (withE a ea).last, .int .i64 (withE a ea).mem, .int .i64 (withE a ea).pos, .slice Aa (withE a ea).es.length ca1, .int .i64 (withE a ea).com, .int .i64 (withE a ea).num, .int .i64 (withE a ea).clk, .bool (withE a ea).yes] = x4 at *
      refine Hb.only 5 none rfl ?_
      refine wpList_store_row rfl 24 (.tmp 3) (.tmp 12) rfl g2 _ rfl rfl _ _ KB.out (by kernel_rfl) (by rfl) (by kernel_rfl) ?_
      have GG := grown_row x4 g2 #[.int .i64 (withE b eb).kind, .int .i64 (withE b eb).fr, .int .i64 (withE b eb).dst, .int .i64 (withE b eb).boot, .int .i64 (withE b eb).view, .int .i64 (withE b eb).last, .int .i64 (withE b eb).mem, .int .i64 (withE b eb).pos, .slice Ab (withE b eb).es.length cb1, .int .i64 (withE b eb).com, .int .i64 (withE b eb).num, .int .i64 (withE b eb).clk, .bool (withE b eb).yes]
      have BN := grown_below GG LE.out (by have := BL.out.size; have := HG.out; omega)
      replace BL := Lib.hid (BL.out.trans BN)
      replace Pa := Lib.hid (own_apartB Pa.out KB.out (by decide) GG)
      replace Pb := Lib.hid (own_apartB Pb.out KB.out (by decide) GG)
      replace KA := Lib.hid (KA.out.far GG NE.out)
      replace KB : Hid (Blk (x4.setRow g2 #[.int .i64 (withE b eb).kind, .int .i64 (withE b eb).fr, .int .i64 (withE b eb).dst, .int .i64 (withE b eb).boot, .int .i64 (withE b eb).view, .int .i64 (withE b eb).last, .int .i64 (withE b eb).mem, .int .i64 (withE b eb).pos, .slice Ab (withE b eb).es.length cb1, .int .i64 (withE b eb).com, .int .i64 (withE b eb).num, .int .i64 (withE b eb).clk, .bool (withE b eb).yes]) g2 24 (mcs (withE b eb) Ab cb1)) := Lib.hid (KB.out.row #[.int .i64 (withE b eb).kind, .int .i64 (withE b eb).fr, .int .i64 (withE b eb).dst, .int .i64 (withE b eb).boot, .int .i64 (withE b eb).view, .int .i64 (withE b eb).last, .int .i64 (withE b eb).mem, .int .i64 (withE b eb).pos, .slice Ab (withE b eb).es.length cb1, .int .i64 (withE b eb).com, .int .i64 (withE b eb).num, .int .i64 (withE b eb).clk, .bool (withE b eb).yes])
      refine Hb.next BN (Nat.le_refl _) ?_ rfl
      clear BN GG
      generalize x4.setRow g2 #[.int .i64 (withE b eb).kind, .int .i64 (withE b eb).fr, .int .i64 (withE b eb).dst, .int .i64 (withE b eb).boot, .int .i64 (withE b eb).view, .int .i64 (withE b eb).last, .int .i64 (withE b eb).mem, .int .i64 (withE b eb).pos, .slice Ab (withE b eb).es.length cb1, .int .i64 (withE b eb).com, .int .i64 (withE b eb).num, .int .i64 (withE b eb).clk, .bool (withE b eb).yes] = x5 at *
      refine Hb.done ?_
      have R1 := Lib.hid (show Rd x5.drew x5.drew.heap.size Aa ca1 7 (withE a ea).es.length (els (withE a ea).es) from Rd.of_own Pa.out)
      have R2 := Lib.hid (show Rd x5.drew x5.drew.heap.size Ab cb1 7 (withE b eb).es.length (els (withE b eb).es) from Rd.of_own Pb.out)
      have HM := Lib.hid (show -9223372036854775808 ≤ (withE a ea).mem ∧ (withE a ea).mem ≤ 9223372036854775807 from OKA.out.f6)
      clear NE LE Pa Pb
      generalize withE a ea = a1 at *
      generalize withE b eb = b1 at *
      obtain ⟨mm, MM⟩ : ∃ m, Hid (PMsg.may a1 = m) := ⟨_, Lib.hid rfl⟩
      obtain ⟨me, ME⟩ : ∃ m, Hid (PMsg.eqM a1 b1 = m) := ⟨_, Lib.hid rfl⟩
      have LA := Lib.hid (show g < x5.drew.heap.size from KA.out.lt)
      have LB := Lib.hid (show g2 < x5.drew.heap.size from KB.out.lt)
      have SZ := Lib.hid (Nat.le_refl x5.drew.heap.size)
      replace BL : Hid (Below g w x5.drew) := Lib.hid BL.out.drew
      replace KA := Lib.hid (show Blk x5.drew _ _ _ from KA.out.drew)
      replace KB := Lib.hid (show Blk x5.drew _ _ _ from KB.out.drew)
      go_upto_region 5 with fail
-- REGION curfew/curfewlaw16.WireMay 5 wmay5 6
      refine Hb.begin ?_
      refine Hb.take (v := mv a1 Aa ca1) 0 13 rfl ?_ (fun w' hw' => by exact run_loadM (KA.out.below hw' LA.out) rfl)
      refine Hb.take (v := mv a1 Aa ca1) 2 15 rfl ?_ (fun w' hw' => by exact run_loadM (KA.out.below hw' LA.out) rfl)
      refine Hb.call (f := 11) (args := #[mv a1 Aa ca1]) 1 14 rfl ?_ (run_callf Tryd.func11 (by kernel_rfl) (by kernel_rfl) (by simp only [List.map_toArray, List.map_cons, List.map_nil]; rfl))
      refine (wMay_c _ a1 Aa ca1 R1.out HM.out).mono ?_
      rw [MM.out]
      rintro x u1 ⟨rfl, c1⟩
      have BN := c1.mono SZ.out
      have BL := Lib.hid (BL.out.trans (c1.mono (B' := g) (by have := LA.out; have := SZ.out; omega)))
      have SZ := Lib.hid (Nat.le_trans SZ.out c1.size)
      have KA := Lib.hid (KA.out.past c1)
      have KB := Lib.hid (KB.out.past c1)
      have R1 := Lib.hid ((R1.out.past c1).tight)
      have R2 := Lib.hid ((R2.out.past c1).tight)
      refine Hb.back BN (Nat.le_refl _) ?_
      refine Hb.call (f := 12) (args := #[mv a1 Aa ca1]) 3 16 rfl ?_ (run_callf Tryd.func12 (by kernel_rfl) (by kernel_rfl) (by simp only [List.map_toArray, List.map_cons, List.map_nil]; rfl))
      refine (rMayM_c _ a1 Aa ca1 R1.out).mono ?_
      rw [MM.out]
      rintro x u2 ⟨rfl, c2⟩
      have BN := c2.mono SZ.out
      have BL := Lib.hid (BL.out.trans (c2.mono (B' := g) (by have := LA.out; have := SZ.out; omega)))
      have SZ := Lib.hid (Nat.le_trans SZ.out c2.size)
      have KA := Lib.hid (KA.out.past c2)
      have KB := Lib.hid (KB.out.past c2)
      have R1 := Lib.hid ((R1.out.past c2).tight)
      have R2 := Lib.hid ((R2.out.past c2).tight)
      refine Hb.back BN (Nat.le_refl _) ?_
      refine Hb.take (v := .bool true) 4 17 rfl ?_ (fun w' hw' => by go_simp; first | done | rfl | omega | exact wrap_in (by omega) (by omega) | exact Int.tmod_eq_emod_of_nonneg (by omega) | exact Int.tdiv_eq_ediv_of_nonneg (by omega) | (simp; omega))
      refine Hb.take (v := .bool true) 5 18 rfl ?_ (fun _ _ => rfl)
      refine Hb.take (v := mv a1 Aa ca1) 6 19 rfl ?_ (fun w' hw' => by exact run_loadM (KA.out.below hw' LA.out) rfl)
      refine Hb.take (v := mv b1 Ab cb1) 7 20 rfl ?_ (fun w' hw' => by exact run_loadM (KB.out.below hw' LB.out) rfl)
      refine Hb.take (v := mv a1 Aa ca1) 9 22 rfl ?_ (fun w' hw' => by exact run_loadM (KA.out.below hw' LA.out) rfl)
      refine Hb.take (v := mv b1 Ab cb1) 10 23 rfl ?_ (fun w' hw' => by exact run_loadM (KB.out.below hw' LB.out) rfl)
      refine Hb.call (f := 13) (args := #[mv a1 Aa ca1, mv b1 Ab cb1]) 8 21 rfl ?_ (run_callf Tryd.func13 (by kernel_rfl) (by kernel_rfl) (by simp only [List.map_toArray, List.map_cons, List.map_nil]; rfl))
      refine (wEq_c _ a1 b1 Aa Ab ca1 cb1 R1.out R2.out).mono ?_
      rw [ME.out]
      rintro x u3 ⟨rfl, c3⟩
      have BN := c3.mono SZ.out
      have BL := Lib.hid (BL.out.trans (c3.mono (B' := g) (by have := LA.out; have := SZ.out; omega)))
      have SZ := Lib.hid (Nat.le_trans SZ.out c3.size)
      have KA := Lib.hid (KA.out.past c3)
      have KB := Lib.hid (KB.out.past c3)
      have R1 := Lib.hid ((R1.out.past c3).tight)
      have R2 := Lib.hid ((R2.out.past c3).tight)
      refine Hb.back BN (Nat.le_refl _) ?_
      refine Hb.call (f := 14) (args := #[mv a1 Aa ca1, mv b1 Ab cb1]) 11 24 rfl ?_ (run_callf Tryd.func14 (by kernel_rfl) (by kernel_rfl) (by simp only [List.map_toArray, List.map_cons, List.map_nil]; rfl))
      refine (rEqM_c _ a1 b1 Aa Ab ca1 cb1 R1.out R2.out).mono ?_
      rw [ME.out]
      rintro x u4 ⟨rfl, c4⟩
      have BN := c4.mono SZ.out
      have BL := Lib.hid (BL.out.trans (c4.mono (B' := g) (by have := LA.out; have := SZ.out; omega)))
      have SZ := Lib.hid (Nat.le_trans SZ.out c4.size)
      have KA := Lib.hid (KA.out.past c4)
      have KB := Lib.hid (KB.out.past c4)
      have R1 := Lib.hid ((R1.out.past c4).tight)
      have R2 := Lib.hid ((R2.out.past c4).tight)
      refine Hb.back BN (Nat.le_refl _) ?_
      refine Hb.take (v := .bool true) 12 25 rfl ?_ (fun w' hw' => by go_simp; first | done | rfl | omega | exact wrap_in (by omega) (by omega) | exact Int.tmod_eq_emod_of_nonneg (by omega) | exact Int.tdiv_eq_ediv_of_nonneg (by omega) | (simp; omega))
      refine Hb.take (v := .bool true) 13 26 rfl ?_ (fun _ _ => rfl)
      refine Hb.take (v := .bool true) 14 27 rfl ?_ (fun _ _ => rfl)
      refine Hb.take (v := mv a1 Aa ca1) 15 28 rfl ?_ (fun w' hw' => by exact run_loadM (KA.out.below hw' LA.out) rfl)
      refine Hb.take (v := mv a1 Aa ca1) 16 29 rfl ?_ (fun w' hw' => by exact run_loadM (KA.out.below hw' LA.out) rfl)
      refine Hb.call (f := 13) (args := #[mv a1 Aa ca1, mv a1 Aa ca1]) 17 30 rfl ?_ (run_callf Tryd.func13 (by kernel_rfl) (by kernel_rfl) (by simp only [List.map_toArray, List.map_cons, List.map_nil]; rfl))
      refine (wEq_c _ a1 a1 Aa Aa ca1 ca1 R1.out R1.out).mono ?_
      rw [PMsg.eqM_refl]
      rintro x u5 ⟨rfl, c5⟩
      have BN := c5.mono SZ.out
      have BL := Lib.hid (BL.out.trans (c5.mono (B' := g) (by have := LA.out; have := SZ.out; omega)))
      have SZ := Lib.hid (Nat.le_trans SZ.out c5.size)
      have KA := Lib.hid (KA.out.past c5)
      have KB := Lib.hid (KB.out.past c5)
      have R1 := Lib.hid ((R1.out.past c5).tight)
      have R2 := Lib.hid ((R2.out.past c5).tight)
      refine Hb.back BN (Nat.le_refl _) ?_
      refine Hb.take (v := .bool true) 18 31 rfl ?_ (fun _ _ => rfl)
      refine Hb.take (v := .bool true) 19 4 rfl ?_ (fun _ _ => rfl)
      refine Hb.done ?_
-- END
      go_wp2_with fail
      go_ret
      exact ⟨rfl, by rw [HG.out]; exact BL.out⟩
    · skip
      refine Hb.pick 2 (some 11) rfl ?_
      refine wpList_runTo' rfl (mv b A2 cb) _ (run_loadM KB.out rfl) ?_
      refine Hb.next (Below.refl _ _) (Nat.le_refl _) ?_ (by simp only [Act.put, List.setIfInBounds_toArray, List.set_cons_succ, List.set_cons_zero]; rfl)
      refine Hb.call (f := 10) (args := #[mv a A ca]) 1 10 rfl ?_ (run_callf Tryd.func10 (by kernel_rfl) (by kernel_rfl) (by simp only [List.map_toArray, List.map_cons, List.map_nil]; rfl))
      refine (lCutM_c _ a A ca ((RA.out.below BL.out).tight) OKA.out.ents).mono ?_
      rintro y va ⟨Aa, ca1, ea, rfl, -, owna, -, ba⟩
      have BN := ba.mono (B' := g) (by have := BL.out.size; have := HG.out; omega)
      have Pa := Lib.hid (own_from owna (by have := BL.out.size; have := HG.out; omega : g ≤ _))
      replace BL := Lib.hid (BL.out.trans BN)
      replace KA := Lib.hid (KA.out.past ba)
      replace KB := Lib.hid (KB.out.past ba)
      refine Hb.back BN (Nat.le_refl _) ?_ (by simp only [Act.put, List.setIfInBounds_toArray, List.set_cons_succ, List.set_cons_zero]; rfl)
      clear BN ba owna
      refine Hb.call (f := 10) (args := #[mv b A2 cb]) 3 12 rfl ?_ (run_callf Tryd.func10 (by kernel_rfl) (by kernel_rfl) (by simp only [List.map_toArray, List.map_cons, List.map_nil]; rfl))
      refine (lCutM_c _ b A2 cb ((RB.out.below BL.out).tight) OKB.out.ents).mono ?_
      rintro y vb ⟨Ab, cb1, eb, rfl, -, ownb, -, bb⟩
      have BN := bb.mono (B' := g) (by have := BL.out.size; have := HG.out; omega)
      have Pb := Lib.hid (own_from ownb (by have := BL.out.size; have := HG.out; omega : g ≤ _))
      replace Pa := Lib.hid (own_below Pa.out bb)
      replace BL := Lib.hid (BL.out.trans BN)
      replace KA := Lib.hid (KA.out.past bb)
      replace KB := Lib.hid (KB.out.past bb)
      refine Hb.back BN (Nat.le_refl _) ?_ (by simp only [Act.put, List.setIfInBounds_toArray, List.set_cons_succ, List.set_cons_zero]; rfl)
      clear BN bb ownb
      refine Hb.only 4 none rfl ?_
      refine wpList_store_row rfl 24 (.tmp 2) (.tmp 10) rfl g _ rfl rfl _ _ KA.out (by kernel_rfl) (by rfl) (by kernel_rfl) ?_
      have GG := grown_row vb g #[.int .i64 (withE a ea).kind, .int .i64 (withE a ea).fr, .int .i64 (withE a ea).dst, .int .i64 (withE a ea).boot, .int .i64 (withE a ea).view, .int .i64 (withE a ea).last, .int .i64 (withE a ea).mem, .int .i64 (withE a ea).pos, .slice Aa (withE a ea).es.length ca1, .int .i64 (withE a ea).com, .int .i64 (withE a ea).num, .int .i64 (withE a ea).clk, .bool (withE a ea).yes]
      have BN := grown_below GG (Nat.le_refl g) (by have := BL.out.size; have := HG.out; omega)
      replace BL := Lib.hid (BL.out.trans BN)
      replace Pa := Lib.hid (own_apartB Pa.out KA.out (by decide) GG)
      replace Pb := Lib.hid (own_apartB Pb.out KA.out (by decide) GG)
      replace KB := Lib.hid (KB.out.far GG (Ne.symm NE.out))
      replace KA : Hid (Blk (vb.setRow g #[.int .i64 (withE a ea).kind, .int .i64 (withE a ea).fr, .int .i64 (withE a ea).dst, .int .i64 (withE a ea).boot, .int .i64 (withE a ea).view, .int .i64 (withE a ea).last, .int .i64 (withE a ea).mem, .int .i64 (withE a ea).pos, .slice Aa (withE a ea).es.length ca1, .int .i64 (withE a ea).com, .int .i64 (withE a ea).num, .int .i64 (withE a ea).clk, .bool (withE a ea).yes]) g 24 (mcs (withE a ea) Aa ca1)) := Lib.hid (KA.out.row #[.int .i64 (withE a ea).kind, .int .i64 (withE a ea).fr, .int .i64 (withE a ea).dst, .int .i64 (withE a ea).boot, .int .i64 (withE a ea).view, .int .i64 (withE a ea).last, .int .i64 (withE a ea).mem, .int .i64 (withE a ea).pos, .slice Aa (withE a ea).es.length ca1, .int .i64 (withE a ea).com, .int .i64 (withE a ea).num, .int .i64 (withE a ea).clk, .bool (withE a ea).yes])
      refine Hb.next BN (Nat.le_refl _) ?_ rfl
      clear BN GG
      generalize vb.setRow g #[.int .i64 (withE a ea).kind, .int .i64 (withE a ea).fr, .int .i64 (withE a ea).dst, .int .i64 (withE a ea).boot, .int .i64 (withE a ea).view, .int .i64 (withE a ea).last, .int .i64 (withE a ea).mem, .int .i64 (withE a ea).pos, .slice Aa (withE a ea).es.length ca1, .int .i64 (withE a ea).com, .int .i64 (withE a ea).num, .int .i64 (withE a ea).clk, .bool (withE a ea).yes] = x4 at *
      refine Hb.only 5 none rfl ?_
      refine wpList_store_row rfl 24 (.tmp 3) (.tmp 12) rfl g2 _ rfl rfl _ _ KB.out (by kernel_rfl) (by rfl) (by kernel_rfl) ?_
      have GG := grown_row x4 g2 #[.int .i64 (withE b eb).kind, .int .i64 (withE b eb).fr, .int .i64 (withE b eb).dst, .int .i64 (withE b eb).boot, .int .i64 (withE b eb).view, .int .i64 (withE b eb).last, .int .i64 (withE b eb).mem, .int .i64 (withE b eb).pos, .slice Ab (withE b eb).es.length cb1, .int .i64 (withE b eb).com, .int .i64 (withE b eb).num, .int .i64 (withE b eb).clk, .bool (withE b eb).yes]
      have BN := grown_below GG LE.out (by have := BL.out.size; have := HG.out; omega)
      replace BL := Lib.hid (BL.out.trans BN)
      replace Pa := Lib.hid (own_apartB Pa.out KB.out (by decide) GG)
      replace Pb := Lib.hid (own_apartB Pb.out KB.out (by decide) GG)
      replace KA := Lib.hid (KA.out.far GG NE.out)
      replace KB : Hid (Blk (x4.setRow g2 #[.int .i64 (withE b eb).kind, .int .i64 (withE b eb).fr, .int .i64 (withE b eb).dst, .int .i64 (withE b eb).boot, .int .i64 (withE b eb).view, .int .i64 (withE b eb).last, .int .i64 (withE b eb).mem, .int .i64 (withE b eb).pos, .slice Ab (withE b eb).es.length cb1, .int .i64 (withE b eb).com, .int .i64 (withE b eb).num, .int .i64 (withE b eb).clk, .bool (withE b eb).yes]) g2 24 (mcs (withE b eb) Ab cb1)) := Lib.hid (KB.out.row #[.int .i64 (withE b eb).kind, .int .i64 (withE b eb).fr, .int .i64 (withE b eb).dst, .int .i64 (withE b eb).boot, .int .i64 (withE b eb).view, .int .i64 (withE b eb).last, .int .i64 (withE b eb).mem, .int .i64 (withE b eb).pos, .slice Ab (withE b eb).es.length cb1, .int .i64 (withE b eb).com, .int .i64 (withE b eb).num, .int .i64 (withE b eb).clk, .bool (withE b eb).yes])
      refine Hb.next BN (Nat.le_refl _) ?_ rfl
      clear BN GG
      generalize x4.setRow g2 #[.int .i64 (withE b eb).kind, .int .i64 (withE b eb).fr, .int .i64 (withE b eb).dst, .int .i64 (withE b eb).boot, .int .i64 (withE b eb).view, .int .i64 (withE b eb).last, .int .i64 (withE b eb).mem, .int .i64 (withE b eb).pos, .slice Ab (withE b eb).es.length cb1, .int .i64 (withE b eb).com, .int .i64 (withE b eb).num, .int .i64 (withE b eb).clk, .bool (withE b eb).yes] = x5 at *
      refine Hb.done ?_
      have R1 := Lib.hid (show Rd x5.drew x5.drew.heap.size Aa ca1 7 (withE a ea).es.length (els (withE a ea).es) from Rd.of_own Pa.out)
      have R2 := Lib.hid (show Rd x5.drew x5.drew.heap.size Ab cb1 7 (withE b eb).es.length (els (withE b eb).es) from Rd.of_own Pb.out)
      have HM := Lib.hid (show -9223372036854775808 ≤ (withE a ea).mem ∧ (withE a ea).mem ≤ 9223372036854775807 from OKA.out.f6)
      clear NE LE Pa Pb
      generalize withE a ea = a1 at *
      generalize withE b eb = b1 at *
      obtain ⟨mm, MM⟩ : ∃ m, Hid (PMsg.may a1 = m) := ⟨_, Lib.hid rfl⟩
      obtain ⟨me, ME⟩ : ∃ m, Hid (PMsg.eqM a1 b1 = m) := ⟨_, Lib.hid rfl⟩
      have LA := Lib.hid (show g < x5.drew.heap.size from KA.out.lt)
      have LB := Lib.hid (show g2 < x5.drew.heap.size from KB.out.lt)
      have SZ := Lib.hid (Nat.le_refl x5.drew.heap.size)
      replace BL : Hid (Below g w x5.drew) := Lib.hid BL.out.drew
      replace KA := Lib.hid (show Blk x5.drew _ _ _ from KA.out.drew)
      replace KB := Lib.hid (show Blk x5.drew _ _ _ from KB.out.drew)
      go_upto_region 5 with fail
-- REGION curfew/curfewlaw16.WireMay 5 wmay5 6
      refine Hb.begin ?_
      refine Hb.take (v := mv a1 Aa ca1) 0 13 rfl ?_ (fun w' hw' => by exact run_loadM (KA.out.below hw' LA.out) rfl)
      refine Hb.take (v := mv a1 Aa ca1) 2 15 rfl ?_ (fun w' hw' => by exact run_loadM (KA.out.below hw' LA.out) rfl)
      refine Hb.call (f := 11) (args := #[mv a1 Aa ca1]) 1 14 rfl ?_ (run_callf Tryd.func11 (by kernel_rfl) (by kernel_rfl) (by simp only [List.map_toArray, List.map_cons, List.map_nil]; rfl))
      refine (wMay_c _ a1 Aa ca1 R1.out HM.out).mono ?_
      rw [MM.out]
      rintro x u1 ⟨rfl, c1⟩
      have BN := c1.mono SZ.out
      have BL := Lib.hid (BL.out.trans (c1.mono (B' := g) (by have := LA.out; have := SZ.out; omega)))
      have SZ := Lib.hid (Nat.le_trans SZ.out c1.size)
      have KA := Lib.hid (KA.out.past c1)
      have KB := Lib.hid (KB.out.past c1)
      have R1 := Lib.hid ((R1.out.past c1).tight)
      have R2 := Lib.hid ((R2.out.past c1).tight)
      refine Hb.back BN (Nat.le_refl _) ?_
      refine Hb.call (f := 12) (args := #[mv a1 Aa ca1]) 3 16 rfl ?_ (run_callf Tryd.func12 (by kernel_rfl) (by kernel_rfl) (by simp only [List.map_toArray, List.map_cons, List.map_nil]; rfl))
      refine (rMayM_c _ a1 Aa ca1 R1.out).mono ?_
      rw [MM.out]
      rintro x u2 ⟨rfl, c2⟩
      have BN := c2.mono SZ.out
      have BL := Lib.hid (BL.out.trans (c2.mono (B' := g) (by have := LA.out; have := SZ.out; omega)))
      have SZ := Lib.hid (Nat.le_trans SZ.out c2.size)
      have KA := Lib.hid (KA.out.past c2)
      have KB := Lib.hid (KB.out.past c2)
      have R1 := Lib.hid ((R1.out.past c2).tight)
      have R2 := Lib.hid ((R2.out.past c2).tight)
      refine Hb.back BN (Nat.le_refl _) ?_
      refine Hb.take (v := .bool true) 4 17 rfl ?_ (fun w' hw' => by go_simp; first | done | rfl | omega | exact wrap_in (by omega) (by omega) | exact Int.tmod_eq_emod_of_nonneg (by omega) | exact Int.tdiv_eq_ediv_of_nonneg (by omega) | (simp; omega))
      refine Hb.take (v := .bool true) 5 18 rfl ?_ (fun _ _ => rfl)
      refine Hb.take (v := mv a1 Aa ca1) 6 19 rfl ?_ (fun w' hw' => by exact run_loadM (KA.out.below hw' LA.out) rfl)
      refine Hb.take (v := mv b1 Ab cb1) 7 20 rfl ?_ (fun w' hw' => by exact run_loadM (KB.out.below hw' LB.out) rfl)
      refine Hb.take (v := mv a1 Aa ca1) 9 22 rfl ?_ (fun w' hw' => by exact run_loadM (KA.out.below hw' LA.out) rfl)
      refine Hb.take (v := mv b1 Ab cb1) 10 23 rfl ?_ (fun w' hw' => by exact run_loadM (KB.out.below hw' LB.out) rfl)
      refine Hb.call (f := 13) (args := #[mv a1 Aa ca1, mv b1 Ab cb1]) 8 21 rfl ?_ (run_callf Tryd.func13 (by kernel_rfl) (by kernel_rfl) (by simp only [List.map_toArray, List.map_cons, List.map_nil]; rfl))
      refine (wEq_c _ a1 b1 Aa Ab ca1 cb1 R1.out R2.out).mono ?_
      rw [ME.out]
      rintro x u3 ⟨rfl, c3⟩
      have BN := c3.mono SZ.out
      have BL := Lib.hid (BL.out.trans (c3.mono (B' := g) (by have := LA.out; have := SZ.out; omega)))
      have SZ := Lib.hid (Nat.le_trans SZ.out c3.size)
      have KA := Lib.hid (KA.out.past c3)
      have KB := Lib.hid (KB.out.past c3)
      have R1 := Lib.hid ((R1.out.past c3).tight)
      have R2 := Lib.hid ((R2.out.past c3).tight)
      refine Hb.back BN (Nat.le_refl _) ?_
      refine Hb.call (f := 14) (args := #[mv a1 Aa ca1, mv b1 Ab cb1]) 11 24 rfl ?_ (run_callf Tryd.func14 (by kernel_rfl) (by kernel_rfl) (by simp only [List.map_toArray, List.map_cons, List.map_nil]; rfl))
      refine (rEqM_c _ a1 b1 Aa Ab ca1 cb1 R1.out R2.out).mono ?_
      rw [ME.out]
      rintro x u4 ⟨rfl, c4⟩
      have BN := c4.mono SZ.out
      have BL := Lib.hid (BL.out.trans (c4.mono (B' := g) (by have := LA.out; have := SZ.out; omega)))
      have SZ := Lib.hid (Nat.le_trans SZ.out c4.size)
      have KA := Lib.hid (KA.out.past c4)
      have KB := Lib.hid (KB.out.past c4)
      have R1 := Lib.hid ((R1.out.past c4).tight)
      have R2 := Lib.hid ((R2.out.past c4).tight)
      refine Hb.back BN (Nat.le_refl _) ?_
      refine Hb.take (v := .bool true) 12 25 rfl ?_ (fun w' hw' => by go_simp; first | done | rfl | omega | exact wrap_in (by omega) (by omega) | exact Int.tmod_eq_emod_of_nonneg (by omega) | exact Int.tdiv_eq_ediv_of_nonneg (by omega) | (simp; omega))
      refine Hb.take (v := .bool true) 13 26 rfl ?_ (fun _ _ => rfl)
      refine Hb.take (v := .bool true) 14 27 rfl ?_ (fun _ _ => rfl)
      refine Hb.take (v := mv a1 Aa ca1) 15 28 rfl ?_ (fun w' hw' => by exact run_loadM (KA.out.below hw' LA.out) rfl)
      refine Hb.take (v := mv a1 Aa ca1) 16 29 rfl ?_ (fun w' hw' => by exact run_loadM (KA.out.below hw' LA.out) rfl)
      refine Hb.call (f := 13) (args := #[mv a1 Aa ca1, mv a1 Aa ca1]) 17 30 rfl ?_ (run_callf Tryd.func13 (by kernel_rfl) (by kernel_rfl) (by simp only [List.map_toArray, List.map_cons, List.map_nil]; rfl))
      refine (wEq_c _ a1 a1 Aa Aa ca1 ca1 R1.out R1.out).mono ?_
      rw [PMsg.eqM_refl]
      rintro x u5 ⟨rfl, c5⟩
      have BN := c5.mono SZ.out
      have BL := Lib.hid (BL.out.trans (c5.mono (B' := g) (by have := LA.out; have := SZ.out; omega)))
      have SZ := Lib.hid (Nat.le_trans SZ.out c5.size)
      have KA := Lib.hid (KA.out.past c5)
      have KB := Lib.hid (KB.out.past c5)
      have R1 := Lib.hid ((R1.out.past c5).tight)
      have R2 := Lib.hid ((R2.out.past c5).tight)
      refine Hb.back BN (Nat.le_refl _) ?_
      refine Hb.take (v := .bool true) 18 31 rfl ?_ (fun _ _ => rfl)
      refine Hb.take (v := .bool true) 19 4 rfl ?_ (fun _ _ => rfl)
      refine Hb.done ?_
-- END
      go_wp2_with fail
      go_ret
      exact ⟨rfl, by rw [HG.out]; exact BL.out⟩
  · skip
    refine Hb.pick 2 (some 11) rfl ?_
    refine wpList_runTo' rfl (mv b A2 cb) _ (run_loadM KB.out rfl) ?_
    refine Hb.next (Below.refl _ _) (Nat.le_refl _) ?_ (by simp only [Act.put, List.setIfInBounds_toArray, List.set_cons_succ, List.set_cons_zero]; rfl)
    refine Hb.only 0 (some 9) rfl ?_
    refine wpList_runTo' rfl (mv a A ca) _ (run_loadM KA.out rfl) ?_
    refine Hb.next (Below.refl _ _) (Nat.le_refl _) ?_ (by simp only [Act.put, List.setIfInBounds_toArray, List.set_cons_succ, List.set_cons_zero]; rfl)
    refine Hb.call (f := 10) (args := #[mv a A ca]) 1 10 rfl ?_ (run_callf Tryd.func10 (by kernel_rfl) (by kernel_rfl) (by simp only [List.map_toArray, List.map_cons, List.map_nil]; rfl))
    refine (lCutM_c _ a A ca ((RA.out.below BL.out).tight) OKA.out.ents).mono ?_
    rintro y va ⟨Aa, ca1, ea, rfl, -, owna, -, ba⟩
    have BN := ba.mono (B' := g) (by have := BL.out.size; have := HG.out; omega)
    have Pa := Lib.hid (own_from owna (by have := BL.out.size; have := HG.out; omega : g ≤ _))
    replace BL := Lib.hid (BL.out.trans BN)
    replace KA := Lib.hid (KA.out.past ba)
    replace KB := Lib.hid (KB.out.past ba)
    refine Hb.back BN (Nat.le_refl _) ?_ (by simp only [Act.put, List.setIfInBounds_toArray, List.set_cons_succ, List.set_cons_zero]; rfl)
    clear BN ba owna
    refine Hb.call (f := 10) (args := #[mv b A2 cb]) 3 12 rfl ?_ (run_callf Tryd.func10 (by kernel_rfl) (by kernel_rfl) (by simp only [List.map_toArray, List.map_cons, List.map_nil]; rfl))
    refine (lCutM_c _ b A2 cb ((RB.out.below BL.out).tight) OKB.out.ents).mono ?_
    rintro y vb ⟨Ab, cb1, eb, rfl, -, ownb, -, bb⟩
    have BN := bb.mono (B' := g) (by have := BL.out.size; have := HG.out; omega)
    have Pb := Lib.hid (own_from ownb (by have := BL.out.size; have := HG.out; omega : g ≤ _))
    replace Pa := Lib.hid (own_below Pa.out bb)
    replace BL := Lib.hid (BL.out.trans BN)
    replace KA := Lib.hid (KA.out.past bb)
    replace KB := Lib.hid (KB.out.past bb)
    refine Hb.back BN (Nat.le_refl _) ?_ (by simp only [Act.put, List.setIfInBounds_toArray, List.set_cons_succ, List.set_cons_zero]; rfl)
    clear BN bb ownb
    refine Hb.only 4 none rfl ?_
    refine wpList_store_row rfl 24 (.tmp 2) (.tmp 10) rfl g _ rfl rfl _ _ KA.out (by kernel_rfl) (by rfl) (by kernel_rfl) ?_
    have GG := grown_row vb g #[.int .i64 (withE a ea).kind, .int .i64 (withE a ea).fr, .int .i64 (withE a ea).dst, .int .i64 (withE a ea).boot, .int .i64 (withE a ea).view, .int .i64 (withE a ea).last, .int .i64 (withE a ea).mem, .int .i64 (withE a ea).pos, .slice Aa (withE a ea).es.length ca1, .int .i64 (withE a ea).com, .int .i64 (withE a ea).num, .int .i64 (withE a ea).clk, .bool (withE a ea).yes]
    have BN := grown_below GG (Nat.le_refl g) (by have := BL.out.size; have := HG.out; omega)
    replace BL := Lib.hid (BL.out.trans BN)
    replace Pa := Lib.hid (own_apartB Pa.out KA.out (by decide) GG)
    replace Pb := Lib.hid (own_apartB Pb.out KA.out (by decide) GG)
    replace KB := Lib.hid (KB.out.far GG (Ne.symm NE.out))
    replace KA : Hid (Blk (vb.setRow g #[.int .i64 (withE a ea).kind, .int .i64 (withE a ea).fr, .int .i64 (withE a ea).dst, .int .i64 (withE a ea).boot, .int .i64 (withE a ea).view, .int .i64 (withE a ea).last, .int .i64 (withE a ea).mem, .int .i64 (withE a ea).pos, .slice Aa (withE a ea).es.length ca1, .int .i64 (withE a ea).com, .int .i64 (withE a ea).num, .int .i64 (withE a ea).clk, .bool (withE a ea).yes]) g 24 (mcs (withE a ea) Aa ca1)) := Lib.hid (KA.out.row #[.int .i64 (withE a ea).kind, .int .i64 (withE a ea).fr, .int .i64 (withE a ea).dst, .int .i64 (withE a ea).boot, .int .i64 (withE a ea).view, .int .i64 (withE a ea).last, .int .i64 (withE a ea).mem, .int .i64 (withE a ea).pos, .slice Aa (withE a ea).es.length ca1, .int .i64 (withE a ea).com, .int .i64 (withE a ea).num, .int .i64 (withE a ea).clk, .bool (withE a ea).yes])
    refine Hb.next BN (Nat.le_refl _) ?_ rfl
    clear BN GG
    generalize vb.setRow g #[.int .i64 (withE a ea).kind, .int .i64 (withE a ea).fr, .int .i64 (withE a ea).dst, .int .i64 (withE a ea).boot, .int .i64 (withE a ea).view, .int .i64 (withE a ea).last, .int .i64 (withE a ea).mem, .int .i64 (withE a ea).pos, .slice Aa (withE a ea).es.length ca1, .int .i64 (withE a ea).com, .int .i64 (withE a ea).num, .int .i64 (withE a ea).clk, .bool (withE a ea).yes] = x4 at *
    refine Hb.only 5 none rfl ?_
    refine wpList_store_row rfl 24 (.tmp 3) (.tmp 12) rfl g2 _ rfl rfl _ _ KB.out (by kernel_rfl) (by rfl) (by kernel_rfl) ?_
    have GG := grown_row x4 g2 #[.int .i64 (withE b eb).kind, .int .i64 (withE b eb).fr, .int .i64 (withE b eb).dst, .int .i64 (withE b eb).boot, .int .i64 (withE b eb).view, .int .i64 (withE b eb).last, .int .i64 (withE b eb).mem, .int .i64 (withE b eb).pos, .slice Ab (withE b eb).es.length cb1, .int .i64 (withE b eb).com, .int .i64 (withE b eb).num, .int .i64 (withE b eb).clk, .bool (withE b eb).yes]
    have BN := grown_below GG LE.out (by have := BL.out.size; have := HG.out; omega)
    replace BL := Lib.hid (BL.out.trans BN)
    replace Pa := Lib.hid (own_apartB Pa.out KB.out (by decide) GG)
    replace Pb := Lib.hid (own_apartB Pb.out KB.out (by decide) GG)
    replace KA := Lib.hid (KA.out.far GG NE.out)
    replace KB : Hid (Blk (x4.setRow g2 #[.int .i64 (withE b eb).kind, .int .i64 (withE b eb).fr, .int .i64 (withE b eb).dst, .int .i64 (withE b eb).boot, .int .i64 (withE b eb).view, .int .i64 (withE b eb).last, .int .i64 (withE b eb).mem, .int .i64 (withE b eb).pos, .slice Ab (withE b eb).es.length cb1, .int .i64 (withE b eb).com, .int .i64 (withE b eb).num, .int .i64 (withE b eb).clk, .bool (withE b eb).yes]) g2 24 (mcs (withE b eb) Ab cb1)) := Lib.hid (KB.out.row #[.int .i64 (withE b eb).kind, .int .i64 (withE b eb).fr, .int .i64 (withE b eb).dst, .int .i64 (withE b eb).boot, .int .i64 (withE b eb).view, .int .i64 (withE b eb).last, .int .i64 (withE b eb).mem, .int .i64 (withE b eb).pos, .slice Ab (withE b eb).es.length cb1, .int .i64 (withE b eb).com, .int .i64 (withE b eb).num, .int .i64 (withE b eb).clk, .bool (withE b eb).yes])
    refine Hb.next BN (Nat.le_refl _) ?_ rfl
    clear BN GG
    generalize x4.setRow g2 #[.int .i64 (withE b eb).kind, .int .i64 (withE b eb).fr, .int .i64 (withE b eb).dst, .int .i64 (withE b eb).boot, .int .i64 (withE b eb).view, .int .i64 (withE b eb).last, .int .i64 (withE b eb).mem, .int .i64 (withE b eb).pos, .slice Ab (withE b eb).es.length cb1, .int .i64 (withE b eb).com, .int .i64 (withE b eb).num, .int .i64 (withE b eb).clk, .bool (withE b eb).yes] = x5 at *
    refine Hb.done ?_
    have R1 := Lib.hid (show Rd x5.drew x5.drew.heap.size Aa ca1 7 (withE a ea).es.length (els (withE a ea).es) from Rd.of_own Pa.out)
    have R2 := Lib.hid (show Rd x5.drew x5.drew.heap.size Ab cb1 7 (withE b eb).es.length (els (withE b eb).es) from Rd.of_own Pb.out)
    have HM := Lib.hid (show -9223372036854775808 ≤ (withE a ea).mem ∧ (withE a ea).mem ≤ 9223372036854775807 from OKA.out.f6)
    clear NE LE Pa Pb
    generalize withE a ea = a1 at *
    generalize withE b eb = b1 at *
    obtain ⟨mm, MM⟩ : ∃ m, Hid (PMsg.may a1 = m) := ⟨_, Lib.hid rfl⟩
    obtain ⟨me, ME⟩ : ∃ m, Hid (PMsg.eqM a1 b1 = m) := ⟨_, Lib.hid rfl⟩
    have LA := Lib.hid (show g < x5.drew.heap.size from KA.out.lt)
    have LB := Lib.hid (show g2 < x5.drew.heap.size from KB.out.lt)
    have SZ := Lib.hid (Nat.le_refl x5.drew.heap.size)
    replace BL : Hid (Below g w x5.drew) := Lib.hid BL.out.drew
    replace KA := Lib.hid (show Blk x5.drew _ _ _ from KA.out.drew)
    replace KB := Lib.hid (show Blk x5.drew _ _ _ from KB.out.drew)
    go_upto_region 5 with fail
-- REGION curfew/curfewlaw16.WireMay 5 wmay5 4
    refine Hb.begin ?_
    refine Hb.take (v := mv a1 Aa ca1) 0 13 rfl ?_ (fun w' hw' => by exact run_loadM (KA.out.below hw' LA.out) rfl)
    refine Hb.take (v := mv a1 Aa ca1) 2 15 rfl ?_ (fun w' hw' => by exact run_loadM (KA.out.below hw' LA.out) rfl)
    refine Hb.call (f := 11) (args := #[mv a1 Aa ca1]) 1 14 rfl ?_ (run_callf Tryd.func11 (by kernel_rfl) (by kernel_rfl) (by simp only [List.map_toArray, List.map_cons, List.map_nil]; rfl))
    refine (wMay_c _ a1 Aa ca1 R1.out HM.out).mono ?_
    rw [MM.out]
    rintro x u1 ⟨rfl, c1⟩
    have BN := c1.mono SZ.out
    have BL := Lib.hid (BL.out.trans (c1.mono (B' := g) (by have := LA.out; have := SZ.out; omega)))
    have SZ := Lib.hid (Nat.le_trans SZ.out c1.size)
    have KA := Lib.hid (KA.out.past c1)
    have KB := Lib.hid (KB.out.past c1)
    have R1 := Lib.hid ((R1.out.past c1).tight)
    have R2 := Lib.hid ((R2.out.past c1).tight)
    refine Hb.back BN (Nat.le_refl _) ?_
    refine Hb.call (f := 12) (args := #[mv a1 Aa ca1]) 3 16 rfl ?_ (run_callf Tryd.func12 (by kernel_rfl) (by kernel_rfl) (by simp only [List.map_toArray, List.map_cons, List.map_nil]; rfl))
    refine (rMayM_c _ a1 Aa ca1 R1.out).mono ?_
    rw [MM.out]
    rintro x u2 ⟨rfl, c2⟩
    have BN := c2.mono SZ.out
    have BL := Lib.hid (BL.out.trans (c2.mono (B' := g) (by have := LA.out; have := SZ.out; omega)))
    have SZ := Lib.hid (Nat.le_trans SZ.out c2.size)
    have KA := Lib.hid (KA.out.past c2)
    have KB := Lib.hid (KB.out.past c2)
    have R1 := Lib.hid ((R1.out.past c2).tight)
    have R2 := Lib.hid ((R2.out.past c2).tight)
    refine Hb.back BN (Nat.le_refl _) ?_
    refine Hb.take (v := .bool true) 4 17 rfl ?_ (fun w' hw' => by go_simp; first | done | rfl | omega | exact wrap_in (by omega) (by omega) | exact Int.tmod_eq_emod_of_nonneg (by omega) | exact Int.tdiv_eq_ediv_of_nonneg (by omega) | (simp; omega))
    refine Hb.take (v := .bool true) 5 18 rfl ?_ (fun _ _ => rfl)
    refine Hb.take (v := mv a1 Aa ca1) 6 19 rfl ?_ (fun w' hw' => by exact run_loadM (KA.out.below hw' LA.out) rfl)
    refine Hb.take (v := mv b1 Ab cb1) 7 20 rfl ?_ (fun w' hw' => by exact run_loadM (KB.out.below hw' LB.out) rfl)
    refine Hb.take (v := mv a1 Aa ca1) 9 22 rfl ?_ (fun w' hw' => by exact run_loadM (KA.out.below hw' LA.out) rfl)
    refine Hb.take (v := mv b1 Ab cb1) 10 23 rfl ?_ (fun w' hw' => by exact run_loadM (KB.out.below hw' LB.out) rfl)
    refine Hb.call (f := 13) (args := #[mv a1 Aa ca1, mv b1 Ab cb1]) 8 21 rfl ?_ (run_callf Tryd.func13 (by kernel_rfl) (by kernel_rfl) (by simp only [List.map_toArray, List.map_cons, List.map_nil]; rfl))
    refine (wEq_c _ a1 b1 Aa Ab ca1 cb1 R1.out R2.out).mono ?_
    rw [ME.out]
    rintro x u3 ⟨rfl, c3⟩
    have BN := c3.mono SZ.out
    have BL := Lib.hid (BL.out.trans (c3.mono (B' := g) (by have := LA.out; have := SZ.out; omega)))
    have SZ := Lib.hid (Nat.le_trans SZ.out c3.size)
    have KA := Lib.hid (KA.out.past c3)
    have KB := Lib.hid (KB.out.past c3)
    have R1 := Lib.hid ((R1.out.past c3).tight)
    have R2 := Lib.hid ((R2.out.past c3).tight)
    refine Hb.back BN (Nat.le_refl _) ?_
    refine Hb.call (f := 14) (args := #[mv a1 Aa ca1, mv b1 Ab cb1]) 11 24 rfl ?_ (run_callf Tryd.func14 (by kernel_rfl) (by kernel_rfl) (by simp only [List.map_toArray, List.map_cons, List.map_nil]; rfl))
    refine (rEqM_c _ a1 b1 Aa Ab ca1 cb1 R1.out R2.out).mono ?_
    rw [ME.out]
    rintro x u4 ⟨rfl, c4⟩
    have BN := c4.mono SZ.out
    have BL := Lib.hid (BL.out.trans (c4.mono (B' := g) (by have := LA.out; have := SZ.out; omega)))
    have SZ := Lib.hid (Nat.le_trans SZ.out c4.size)
    have KA := Lib.hid (KA.out.past c4)
    have KB := Lib.hid (KB.out.past c4)
    have R1 := Lib.hid ((R1.out.past c4).tight)
    have R2 := Lib.hid ((R2.out.past c4).tight)
    refine Hb.back BN (Nat.le_refl _) ?_
    refine Hb.take (v := .bool true) 12 25 rfl ?_ (fun w' hw' => by go_simp; first | done | rfl | omega | exact wrap_in (by omega) (by omega) | exact Int.tmod_eq_emod_of_nonneg (by omega) | exact Int.tdiv_eq_ediv_of_nonneg (by omega) | (simp; omega))
    refine Hb.take (v := .bool true) 13 26 rfl ?_ (fun _ _ => rfl)
    refine Hb.take (v := .bool true) 14 27 rfl ?_ (fun _ _ => rfl)
    refine Hb.take (v := mv a1 Aa ca1) 15 28 rfl ?_ (fun w' hw' => by exact run_loadM (KA.out.below hw' LA.out) rfl)
    refine Hb.take (v := mv a1 Aa ca1) 16 29 rfl ?_ (fun w' hw' => by exact run_loadM (KA.out.below hw' LA.out) rfl)
    refine Hb.call (f := 13) (args := #[mv a1 Aa ca1, mv a1 Aa ca1]) 17 30 rfl ?_ (run_callf Tryd.func13 (by kernel_rfl) (by kernel_rfl) (by simp only [List.map_toArray, List.map_cons, List.map_nil]; rfl))
    refine (wEq_c _ a1 a1 Aa Aa ca1 ca1 R1.out R1.out).mono ?_
    rw [PMsg.eqM_refl]
    rintro x u5 ⟨rfl, c5⟩
    have BN := c5.mono SZ.out
    have BL := Lib.hid (BL.out.trans (c5.mono (B' := g) (by have := LA.out; have := SZ.out; omega)))
    have SZ := Lib.hid (Nat.le_trans SZ.out c5.size)
    have KA := Lib.hid (KA.out.past c5)
    have KB := Lib.hid (KB.out.past c5)
    have R1 := Lib.hid ((R1.out.past c5).tight)
    have R2 := Lib.hid ((R2.out.past c5).tight)
    refine Hb.back BN (Nat.le_refl _) ?_
    refine Hb.take (v := .bool true) 18 31 rfl ?_ (fun _ _ => rfl)
    refine Hb.take (v := .bool true) 19 4 rfl ?_ (fun _ _ => rfl)
    refine Hb.done ?_
-- END
    go_wp2_with fail
    go_ret
    exact ⟨rfl, by rw [HG.out]; exact BL.out⟩
end Go.Proofs.YtgcpofiecbpfbaaDoor

