/- The walk of EntrySame. -/
import Derived.Test.YtoflbgmmnljloaaEntJ
import Derived.Test.YtoflbgmmnljloaaEntK
import Derived.Deep.CutRange
namespace Go.Proofs.Ytoflbgmmnljloaa
open Go.RowKit

theorem eqE_comm (a b : Ent) : PEnt.eqE a b = PEnt.eqE b a := by
  rw [Bool.eq_iff_iff, PEnt.eqE_iff, PEnt.eqE_iff]
  exact eq_comm

set_option maxHeartbeats 8000000 in
set_option maxRecDepth 100000 in
theorem EntrySame_w (w : World) (e : Ent) (ord2 lev2 st2 : Int) (d2 : ByteArray) (hf : PEnt.Fit e) :
    Calls Try.prog 7 #[ev e, .int .i64 ord2, .int .i64 lev2, .int .i64 st2, .string d2] w fun x w' => x = .returned (.bool true) ∧ Below w.heap.size w w' := by
  obtain ⟨fr, boot, seq, ord, lev, stamp, data⟩ := e
  have hb1 : -9223372036854775808 ≤ boot ∧ boot ≤ 9223372036854775807 := hf.f1
  have hs1 : -9223372036854775808 ≤ seq ∧ seq ≤ 9223372036854775807 := hf.f2
  clear hf
  show Calls _ _ #[.agg #[.int .i64 fr, .int .i64 boot, .int .i64 seq, .int .i64 ord, .int .i64 lev, .int .i64 stamp, .string data], _, _, _, _] _ _
  go_enter Try.func7, Try.ntmps7
  go_wp2_with fail
  have b0 := (Below.refl w.heap.size w).alloc (Nat.le_refl _) (.cells #[.int .i64 fr, .int .i64 boot, .int .i64 seq, .int .i64 ord, .int .i64 lev, .int .i64 stamp, .string data] 23)
  have k0 := Blk.newEnt w 23 ⟨fr, boot, seq, ord, lev, stamp, data⟩
  refine (begun_c _).mono ?_
  rintro x w1 ⟨rfl, b1⟩
  have B1 := Lib.hid (b0.trans (b1.mono b0.size))
  have K1 := Lib.hid (k0.past b1)
  clear b0 b1 k0
  obtain ⟨d0, d1, d3, d4, d5, d6, d7⟩ := K1.out.ent
  simp only at d0 d1 d3 d4 d5 d6 d7
  go_wp2_with fail
  clear d0 d1 d3 d4 d5 d6 d7
  refine (lCut_c w1 ⟨fr, boot, seq, ord, lev, stamp, data⟩).mono ?_
  simp only [ev]
  rintro x w2 ⟨t, rfl, -, -, b2⟩
  have B2 := Lib.hid (B1.out.trans (b2.mono B1.out.size))
  have K2 := Lib.hid (K1.out.past b2)
  clear b2 K1 B1
  have K3 := Lib.hid (K2.out.row #[.int .i64 fr, .int .i64 boot, .int .i64 seq, .int .i64 ord, .int .i64 lev, .int .i64 stamp, .string t])
  have B3 := Lib.hid (B2.out.trans (grown_below (grown_row w2 w.heap.size #[.int .i64 fr, .int .i64 boot, .int .i64 seq, .int .i64 ord, .int .i64 lev, .int .i64 stamp, .string t]) (Nat.le_refl _) B2.out.size))
  have B3' : Hid (Below w.heap.size w (w2.setRow w.heap.size #[.int .i64 fr, .int .i64 boot, .int .i64 seq, .int .i64 ord, .int .i64 lev, .int .i64 stamp, .string t])) := B3
  have K3' : Hid (Blk (w2.setRow w.heap.size #[.int .i64 fr, .int .i64 boot, .int .i64 seq, .int .i64 ord, .int .i64 lev, .int .i64 stamp, .string t]) w.heap.size 23 (ecs ⟨fr, boot, seq, ord, lev, stamp, t⟩)) := K3
  clear K3 B3
  go_upto_region 5 with ((with_reducible show wpList _ _ _ ((⟨none, Op.store 23 (.tmp 5) (.tmp 20), _, _, _, _⟩ : Oper) :: _) _ _); go_must (refine wpList_store_row rfl 23 (.tmp 5) (.tmp 20) rfl w.heap.size _ rfl rfl _ _ K2.out (by kernel_rfl) (by rfl) (by kernel_rfl) ?_))
  clear K2 B2
  generalize w2.setRow w.heap.size #[.int .i64 fr, .int .i64 boot, .int .i64 seq, .int .i64 ord, .int .i64 lev, .int .i64 stamp, .string t] = w3 at *
  obtain ⟨c0, c1, c2, c3, c4, c5, c6⟩ := K3'.out.ent
  simp only at c0 c1 c2 c3 c4 c5 c6
  have hlt := K3'.out.lt
  generalize hg : w.heap.size = g at *
  have HG := Lib.hid hg
  clear hg
  go_upto_region 11 with fail
  obtain ⟨sq, hsq⟩ : ∃ x, wrap64 (seq + 1) = x := ⟨_, rfl⟩
  obtain ⟨bt, hbt⟩ : ∃ x, wrap64 (boot + 1) = x := ⟨_, rfl⟩
  have nsq : (seq == sq) = false := by
    rw [← hsq]; unfold wrap64; simp; omega
  have nbt : (boot == bt) = false := by
    rw [← hbt]; unfold wrap64; simp; omega
  rw [hsq, hbt]
  clear hsq hbt hb1 hs1 c0 c1 c2 c3 c4 c5 c6
  have s1 : (w3.alloc (.cells #[.int .i64 fr, .int .i64 boot, .int .i64 seq, .int .i64 ord2, .int .i64 lev2, .int .i64 st2, .string d2] 23)).heap.size = w3.heap.size + 1 := by simp
  have s2 : ((w3.alloc (.cells #[.int .i64 fr, .int .i64 boot, .int .i64 seq, .int .i64 ord2, .int .i64 lev2, .int .i64 st2, .string d2] 23)).alloc (.cells #[.int .i64 fr, .int .i64 boot, .int .i64 sq, .int .i64 ord, .int .i64 lev, .int .i64 stamp, .string t] 23)).heap.size = w3.heap.size + 1 + 1 := by simp
  have hlg : w.heap.size ≤ w3.heap.size := by rw [HG.out]; omega
  have bb := ((((B3'.out)).alloc (by omega) (.cells #[.int .i64 fr, .int .i64 boot, .int .i64 seq, .int .i64 ord2, .int .i64 lev2, .int .i64 st2, .string d2] 23)).alloc (by rw [s1]; omega) (.cells #[.int .i64 fr, .int .i64 boot, .int .i64 sq, .int .i64 ord, .int .i64 lev, .int .i64 stamp, .string t] 23)).alloc (by rw [s2]; omega) (.cells #[.int .i64 fr, .int .i64 bt, .int .i64 seq, .int .i64 ord, .int .i64 lev, .int .i64 stamp, .string t] 23)
  have ka := ((K3'.out.alloc (.cells #[.int .i64 fr, .int .i64 boot, .int .i64 seq, .int .i64 ord2, .int .i64 lev2, .int .i64 st2, .string d2] 23)).alloc (.cells #[.int .i64 fr, .int .i64 boot, .int .i64 sq, .int .i64 ord, .int .i64 lev, .int .i64 stamp, .string t] 23)).alloc (.cells #[.int .i64 fr, .int .i64 bt, .int .i64 seq, .int .i64 ord, .int .i64 lev, .int .i64 stamp, .string t] 23)
  have kb := ((Blk.newEnt w3 23 ⟨fr, boot, seq, ord2, lev2, st2, d2⟩).alloc (.cells #[.int .i64 fr, .int .i64 boot, .int .i64 sq, .int .i64 ord, .int .i64 lev, .int .i64 stamp, .string t] 23)).alloc (.cells #[.int .i64 fr, .int .i64 bt, .int .i64 seq, .int .i64 ord, .int .i64 lev, .int .i64 stamp, .string t] 23)
  have kc := (Blk.newEnt (w3.alloc (.cells #[.int .i64 fr, .int .i64 boot, .int .i64 seq, .int .i64 ord2, .int .i64 lev2, .int .i64 st2, .string d2] 23)) 23 ⟨fr, boot, sq, ord, lev, stamp, t⟩).alloc (.cells #[.int .i64 fr, .int .i64 bt, .int .i64 seq, .int .i64 ord, .int .i64 lev, .int .i64 stamp, .string t] 23)
  rw [s1] at kc
  have kd := Blk.newEnt ((w3.alloc (.cells #[.int .i64 fr, .int .i64 boot, .int .i64 seq, .int .i64 ord2, .int .i64 lev2, .int .i64 st2, .string d2] 23)).alloc (.cells #[.int .i64 fr, .int .i64 boot, .int .i64 sq, .int .i64 ord, .int .i64 lev, .int .i64 stamp, .string t] 23)) 23 ⟨fr, bt, seq, ord, lev, stamp, t⟩
  rw [s2] at kd
  have BB : Hid (Below g w (((w3.alloc (.cells #[.int .i64 fr, .int .i64 boot, .int .i64 seq, .int .i64 ord2, .int .i64 lev2, .int .i64 st2, .string d2] 23)).alloc (.cells #[.int .i64 fr, .int .i64 boot, .int .i64 sq, .int .i64 ord, .int .i64 lev, .int .i64 stamp, .string t] 23)).alloc (.cells #[.int .i64 fr, .int .i64 bt, .int .i64 seq, .int .i64 ord, .int .i64 lev, .int .i64 stamp, .string t] 23))) := Lib.hid bb
  have KA : Hid (Blk (((w3.alloc (.cells #[.int .i64 fr, .int .i64 boot, .int .i64 seq, .int .i64 ord2, .int .i64 lev2, .int .i64 st2, .string d2] 23)).alloc (.cells #[.int .i64 fr, .int .i64 boot, .int .i64 sq, .int .i64 ord, .int .i64 lev, .int .i64 stamp, .string t] 23)).alloc (.cells #[.int .i64 fr, .int .i64 bt, .int .i64 seq, .int .i64 ord, .int .i64 lev, .int .i64 stamp, .string t] 23)) g 23 (ecs ⟨fr, boot, seq, ord, lev, stamp, t⟩)) := Lib.hid ka
  have KB : Hid (Blk (((w3.alloc (.cells #[.int .i64 fr, .int .i64 boot, .int .i64 seq, .int .i64 ord2, .int .i64 lev2, .int .i64 st2, .string d2] 23)).alloc (.cells #[.int .i64 fr, .int .i64 boot, .int .i64 sq, .int .i64 ord, .int .i64 lev, .int .i64 stamp, .string t] 23)).alloc (.cells #[.int .i64 fr, .int .i64 bt, .int .i64 seq, .int .i64 ord, .int .i64 lev, .int .i64 stamp, .string t] 23)) w3.heap.size 23 (ecs ⟨fr, boot, seq, ord2, lev2, st2, d2⟩)) := Lib.hid kb
  have KC : Hid (Blk (((w3.alloc (.cells #[.int .i64 fr, .int .i64 boot, .int .i64 seq, .int .i64 ord2, .int .i64 lev2, .int .i64 st2, .string d2] 23)).alloc (.cells #[.int .i64 fr, .int .i64 boot, .int .i64 sq, .int .i64 ord, .int .i64 lev, .int .i64 stamp, .string t] 23)).alloc (.cells #[.int .i64 fr, .int .i64 bt, .int .i64 seq, .int .i64 ord, .int .i64 lev, .int .i64 stamp, .string t] 23)) (w3.heap.size + 1) 23 (ecs ⟨fr, boot, sq, ord, lev, stamp, t⟩)) := Lib.hid kc
  have KD : Hid (Blk (((w3.alloc (.cells #[.int .i64 fr, .int .i64 boot, .int .i64 seq, .int .i64 ord2, .int .i64 lev2, .int .i64 st2, .string d2] 23)).alloc (.cells #[.int .i64 fr, .int .i64 boot, .int .i64 sq, .int .i64 ord, .int .i64 lev, .int .i64 stamp, .string t] 23)).alloc (.cells #[.int .i64 fr, .int .i64 bt, .int .i64 seq, .int .i64 ord, .int .i64 lev, .int .i64 stamp, .string t] 23)) (w3.heap.size + 1 + 1) 23 (ecs ⟨fr, bt, seq, ord, lev, stamp, t⟩)) := Lib.hid kd
  clear bb ka kb kc kd s1 s2 hlg hlt K3' B3'
  generalize (((w3.alloc (.cells #[.int .i64 fr, .int .i64 boot, .int .i64 seq, .int .i64 ord2, .int .i64 lev2, .int .i64 st2, .string d2] 23)).alloc (.cells #[.int .i64 fr, .int .i64 boot, .int .i64 sq, .int .i64 ord, .int .i64 lev, .int .i64 stamp, .string t] 23)).alloc (.cells #[.int .i64 fr, .int .i64 bt, .int .i64 seq, .int .i64 ord, .int .i64 lev, .int .i64 stamp, .string t] 23)) = w4 at *
  generalize w3.heap.size + 1 + 1 = g3 at *
  generalize w3.heap.size + 1 = g2 at *
  generalize w3.heap.size = g1 at *
  have HAC := Lib.hid (show PEnt.same ⟨fr, boot, seq, ord, lev, stamp, t⟩ ⟨fr, boot, sq, ord, lev, stamp, t⟩ = false by simp [PEnt.same, nsq])
  have HAD := Lib.hid (show PEnt.same ⟨fr, boot, seq, ord, lev, stamp, t⟩ ⟨fr, bt, seq, ord, lev, stamp, t⟩ = false by simp [PEnt.same, nbt])
  have HAB := Lib.hid (show PEnt.same ⟨fr, boot, seq, ord, lev, stamp, t⟩ ⟨fr, boot, seq, ord2, lev2, st2, d2⟩ = true by simp [PEnt.same])
  have HBA := Lib.hid (show PEnt.same ⟨fr, boot, seq, ord2, lev2, st2, d2⟩ ⟨fr, boot, seq, ord, lev, stamp, t⟩ = true by simp [PEnt.same])
  clear nsq nbt
  cases z0 : (ord == ord2)
  · have HQ := Lib.hid (show PEnt.eqE ⟨fr, boot, seq, ord, lev, stamp, t⟩ ⟨fr, boot, seq, ord2, lev2, st2, d2⟩ = false by simp [PEnt.eqE, z0])
    have HQ2 := Lib.hid ((eqE_comm ⟨fr, boot, seq, ord2, lev2, st2, d2⟩ ⟨fr, boot, seq, ord, lev, stamp, t⟩).trans HQ.out)
    obtain ⟨p0, p1, p2, p3, p4, p5, p6⟩ := KA.out.ent
    simp only at p0 p1 p2 p3 p4 p5 p6
    obtain ⟨q0, q1, q2, q3, q4, q5, q6⟩ := KB.out.ent
    simp only at q0 q1 q2 q3 q4 q5 q6
    go_wp2_with fail
    clear p0 p1 p2 p3 p4 p5 p6 q0 q1 q2 q3 q4 q5 q6 z0
    refine (Same_c _ ⟨fr, boot, seq, ord, lev, stamp, t⟩ ⟨fr, boot, seq, ord2, lev2, st2, d2⟩).mono ?_
    rw [HAB.out]
    rintro x v1 ⟨rfl, b1⟩
    replace BB := Lib.hid (BB.out.trans (b1.mono (by have := BB.out.size; have := HG.out; omega)))
    replace KA := Lib.hid (KA.out.past b1)
    replace KB := Lib.hid (KB.out.past b1)
    replace KC := Lib.hid (KC.out.past b1)
    replace KD := Lib.hid (KD.out.past b1)
    clear b1
    obtain ⟨p0, p1, p2, p3, p4, p5, p6⟩ := KA.out.ent
    simp only at p0 p1 p2 p3 p4 p5 p6
    obtain ⟨q0, q1, q2, q3, q4, q5, q6⟩ := KB.out.ent
    simp only at q0 q1 q2 q3 q4 q5 q6
    go_wp2_with fail
    clear p0 p1 p2 p3 p4 p5 p6 q0 q1 q2 q3 q4 q5 q6
    refine (Eq_c _ ⟨fr, boot, seq, ord, lev, stamp, t⟩ ⟨fr, boot, seq, ord2, lev2, st2, d2⟩).mono ?_
    rw [HQ.out]
    rintro x v2 ⟨rfl, b2⟩
    replace BB := Lib.hid (BB.out.trans (b2.mono (by have := BB.out.size; have := HG.out; omega)))
    replace KA := Lib.hid (KA.out.past b2)
    replace KB := Lib.hid (KB.out.past b2)
    replace KC := Lib.hid (KC.out.past b2)
    replace KD := Lib.hid (KD.out.past b2)
    clear b2
    obtain ⟨p0, p1, p2, p3, p4, p5, p6⟩ := KA.out.ent
    simp only at p0 p1 p2 p3 p4 p5 p6
    obtain ⟨q0, q1, q2, q3, q4, q5, q6⟩ := KC.out.ent
    simp only at q0 q1 q2 q3 q4 q5 q6
    go_wp2_with fail
    clear p0 p1 p2 p3 p4 p5 p6 q0 q1 q2 q3 q4 q5 q6
    refine (Same_c _ ⟨fr, boot, seq, ord, lev, stamp, t⟩ ⟨fr, boot, sq, ord, lev, stamp, t⟩).mono ?_
    rw [HAC.out]
    rintro x v3 ⟨rfl, b3⟩
    replace BB := Lib.hid (BB.out.trans (b3.mono (by have := BB.out.size; have := HG.out; omega)))
    replace KA := Lib.hid (KA.out.past b3)
    replace KB := Lib.hid (KB.out.past b3)
    replace KC := Lib.hid (KC.out.past b3)
    replace KD := Lib.hid (KD.out.past b3)
    clear b3
    obtain ⟨p0, p1, p2, p3, p4, p5, p6⟩ := KA.out.ent
    simp only at p0 p1 p2 p3 p4 p5 p6
    obtain ⟨q0, q1, q2, q3, q4, q5, q6⟩ := KD.out.ent
    simp only at q0 q1 q2 q3 q4 q5 q6
    go_wp2_with fail
    clear p0 p1 p2 p3 p4 p5 p6 q0 q1 q2 q3 q4 q5 q6
    refine (Same_c _ ⟨fr, boot, seq, ord, lev, stamp, t⟩ ⟨fr, bt, seq, ord, lev, stamp, t⟩).mono ?_
    rw [HAD.out]
    rintro x v4 ⟨rfl, b4⟩
    replace BB := Lib.hid (BB.out.trans (b4.mono (by have := BB.out.size; have := HG.out; omega)))
    replace KA := Lib.hid (KA.out.past b4)
    replace KB := Lib.hid (KB.out.past b4)
    replace KC := Lib.hid (KC.out.past b4)
    replace KD := Lib.hid (KD.out.past b4)
    clear b4
    obtain ⟨p0, p1, p2, p3, p4, p5, p6⟩ := KB.out.ent
    simp only at p0 p1 p2 p3 p4 p5 p6
    obtain ⟨q0, q1, q2, q3, q4, q5, q6⟩ := KA.out.ent
    simp only at q0 q1 q2 q3 q4 q5 q6
    go_wp2_with fail
    clear p0 p1 p2 p3 p4 p5 p6 q0 q1 q2 q3 q4 q5 q6
    refine (Same_c _ ⟨fr, boot, seq, ord2, lev2, st2, d2⟩ ⟨fr, boot, seq, ord, lev, stamp, t⟩).mono ?_
    rw [HBA.out]
    rintro x v5 ⟨rfl, b5⟩
    replace BB := Lib.hid (BB.out.trans (b5.mono (by have := BB.out.size; have := HG.out; omega)))
    replace KA := Lib.hid (KA.out.past b5)
    replace KB := Lib.hid (KB.out.past b5)
    replace KC := Lib.hid (KC.out.past b5)
    replace KD := Lib.hid (KD.out.past b5)
    clear b5
    obtain ⟨p0, p1, p2, p3, p4, p5, p6⟩ := KB.out.ent
    simp only at p0 p1 p2 p3 p4 p5 p6
    obtain ⟨q0, q1, q2, q3, q4, q5, q6⟩ := KA.out.ent
    simp only at q0 q1 q2 q3 q4 q5 q6
    go_wp2_with fail
    clear p0 p1 p2 p3 p4 p5 p6 q0 q1 q2 q3 q4 q5 q6
    refine (Eq_c _ ⟨fr, boot, seq, ord2, lev2, st2, d2⟩ ⟨fr, boot, seq, ord, lev, stamp, t⟩).mono ?_
    rw [HQ2.out]
    rintro x v6 ⟨rfl, b6⟩
    replace BB := Lib.hid (BB.out.trans (b6.mono (by have := BB.out.size; have := HG.out; omega)))
    replace KA := Lib.hid (KA.out.past b6)
    replace KB := Lib.hid (KB.out.past b6)
    replace KC := Lib.hid (KC.out.past b6)
    replace KD := Lib.hid (KD.out.past b6)
    clear b6
    go_wp2_with fail
    go_ret
    exact ⟨rfl, by rw [HG.out]; exact BB.out⟩
  cases z1 : (lev == lev2)
  · have HQ := Lib.hid (show PEnt.eqE ⟨fr, boot, seq, ord, lev, stamp, t⟩ ⟨fr, boot, seq, ord2, lev2, st2, d2⟩ = false by simp [PEnt.eqE, z0, z1])
    have HQ2 := Lib.hid ((eqE_comm ⟨fr, boot, seq, ord2, lev2, st2, d2⟩ ⟨fr, boot, seq, ord, lev, stamp, t⟩).trans HQ.out)
    obtain ⟨p0, p1, p2, p3, p4, p5, p6⟩ := KA.out.ent
    simp only at p0 p1 p2 p3 p4 p5 p6
    obtain ⟨q0, q1, q2, q3, q4, q5, q6⟩ := KB.out.ent
    simp only at q0 q1 q2 q3 q4 q5 q6
    go_wp2_with fail
    clear p0 p1 p2 p3 p4 p5 p6 q0 q1 q2 q3 q4 q5 q6 z0 z1
    refine (Same_c _ ⟨fr, boot, seq, ord, lev, stamp, t⟩ ⟨fr, boot, seq, ord2, lev2, st2, d2⟩).mono ?_
    rw [HAB.out]
    rintro x v1 ⟨rfl, b1⟩
    replace BB := Lib.hid (BB.out.trans (b1.mono (by have := BB.out.size; have := HG.out; omega)))
    replace KA := Lib.hid (KA.out.past b1)
    replace KB := Lib.hid (KB.out.past b1)
    replace KC := Lib.hid (KC.out.past b1)
    replace KD := Lib.hid (KD.out.past b1)
    clear b1
    obtain ⟨p0, p1, p2, p3, p4, p5, p6⟩ := KA.out.ent
    simp only at p0 p1 p2 p3 p4 p5 p6
    obtain ⟨q0, q1, q2, q3, q4, q5, q6⟩ := KB.out.ent
    simp only at q0 q1 q2 q3 q4 q5 q6
    go_wp2_with fail
    clear p0 p1 p2 p3 p4 p5 p6 q0 q1 q2 q3 q4 q5 q6
    refine (Eq_c _ ⟨fr, boot, seq, ord, lev, stamp, t⟩ ⟨fr, boot, seq, ord2, lev2, st2, d2⟩).mono ?_
    rw [HQ.out]
    rintro x v2 ⟨rfl, b2⟩
    replace BB := Lib.hid (BB.out.trans (b2.mono (by have := BB.out.size; have := HG.out; omega)))
    replace KA := Lib.hid (KA.out.past b2)
    replace KB := Lib.hid (KB.out.past b2)
    replace KC := Lib.hid (KC.out.past b2)
    replace KD := Lib.hid (KD.out.past b2)
    clear b2
    obtain ⟨p0, p1, p2, p3, p4, p5, p6⟩ := KA.out.ent
    simp only at p0 p1 p2 p3 p4 p5 p6
    obtain ⟨q0, q1, q2, q3, q4, q5, q6⟩ := KC.out.ent
    simp only at q0 q1 q2 q3 q4 q5 q6
    go_wp2_with fail
    clear p0 p1 p2 p3 p4 p5 p6 q0 q1 q2 q3 q4 q5 q6
    refine (Same_c _ ⟨fr, boot, seq, ord, lev, stamp, t⟩ ⟨fr, boot, sq, ord, lev, stamp, t⟩).mono ?_
    rw [HAC.out]
    rintro x v3 ⟨rfl, b3⟩
    replace BB := Lib.hid (BB.out.trans (b3.mono (by have := BB.out.size; have := HG.out; omega)))
    replace KA := Lib.hid (KA.out.past b3)
    replace KB := Lib.hid (KB.out.past b3)
    replace KC := Lib.hid (KC.out.past b3)
    replace KD := Lib.hid (KD.out.past b3)
    clear b3
    obtain ⟨p0, p1, p2, p3, p4, p5, p6⟩ := KA.out.ent
    simp only at p0 p1 p2 p3 p4 p5 p6
    obtain ⟨q0, q1, q2, q3, q4, q5, q6⟩ := KD.out.ent
    simp only at q0 q1 q2 q3 q4 q5 q6
    go_wp2_with fail
    clear p0 p1 p2 p3 p4 p5 p6 q0 q1 q2 q3 q4 q5 q6
    refine (Same_c _ ⟨fr, boot, seq, ord, lev, stamp, t⟩ ⟨fr, bt, seq, ord, lev, stamp, t⟩).mono ?_
    rw [HAD.out]
    rintro x v4 ⟨rfl, b4⟩
    replace BB := Lib.hid (BB.out.trans (b4.mono (by have := BB.out.size; have := HG.out; omega)))
    replace KA := Lib.hid (KA.out.past b4)
    replace KB := Lib.hid (KB.out.past b4)
    replace KC := Lib.hid (KC.out.past b4)
    replace KD := Lib.hid (KD.out.past b4)
    clear b4
    obtain ⟨p0, p1, p2, p3, p4, p5, p6⟩ := KB.out.ent
    simp only at p0 p1 p2 p3 p4 p5 p6
    obtain ⟨q0, q1, q2, q3, q4, q5, q6⟩ := KA.out.ent
    simp only at q0 q1 q2 q3 q4 q5 q6
    go_wp2_with fail
    clear p0 p1 p2 p3 p4 p5 p6 q0 q1 q2 q3 q4 q5 q6
    refine (Same_c _ ⟨fr, boot, seq, ord2, lev2, st2, d2⟩ ⟨fr, boot, seq, ord, lev, stamp, t⟩).mono ?_
    rw [HBA.out]
    rintro x v5 ⟨rfl, b5⟩
    replace BB := Lib.hid (BB.out.trans (b5.mono (by have := BB.out.size; have := HG.out; omega)))
    replace KA := Lib.hid (KA.out.past b5)
    replace KB := Lib.hid (KB.out.past b5)
    replace KC := Lib.hid (KC.out.past b5)
    replace KD := Lib.hid (KD.out.past b5)
    clear b5
    obtain ⟨p0, p1, p2, p3, p4, p5, p6⟩ := KB.out.ent
    simp only at p0 p1 p2 p3 p4 p5 p6
    obtain ⟨q0, q1, q2, q3, q4, q5, q6⟩ := KA.out.ent
    simp only at q0 q1 q2 q3 q4 q5 q6
    go_wp2_with fail
    clear p0 p1 p2 p3 p4 p5 p6 q0 q1 q2 q3 q4 q5 q6
    refine (Eq_c _ ⟨fr, boot, seq, ord2, lev2, st2, d2⟩ ⟨fr, boot, seq, ord, lev, stamp, t⟩).mono ?_
    rw [HQ2.out]
    rintro x v6 ⟨rfl, b6⟩
    replace BB := Lib.hid (BB.out.trans (b6.mono (by have := BB.out.size; have := HG.out; omega)))
    replace KA := Lib.hid (KA.out.past b6)
    replace KB := Lib.hid (KB.out.past b6)
    replace KC := Lib.hid (KC.out.past b6)
    replace KD := Lib.hid (KD.out.past b6)
    clear b6
    go_wp2_with fail
    go_ret
    exact ⟨rfl, by rw [HG.out]; exact BB.out⟩
  cases z2 : (stamp == st2)
  · have HQ := Lib.hid (show PEnt.eqE ⟨fr, boot, seq, ord, lev, stamp, t⟩ ⟨fr, boot, seq, ord2, lev2, st2, d2⟩ = false by simp [PEnt.eqE, z0, z1, z2])
    have HQ2 := Lib.hid ((eqE_comm ⟨fr, boot, seq, ord2, lev2, st2, d2⟩ ⟨fr, boot, seq, ord, lev, stamp, t⟩).trans HQ.out)
    obtain ⟨p0, p1, p2, p3, p4, p5, p6⟩ := KA.out.ent
    simp only at p0 p1 p2 p3 p4 p5 p6
    obtain ⟨q0, q1, q2, q3, q4, q5, q6⟩ := KB.out.ent
    simp only at q0 q1 q2 q3 q4 q5 q6
    go_wp2_with fail
    clear p0 p1 p2 p3 p4 p5 p6 q0 q1 q2 q3 q4 q5 q6 z0 z1 z2
    refine (Same_c _ ⟨fr, boot, seq, ord, lev, stamp, t⟩ ⟨fr, boot, seq, ord2, lev2, st2, d2⟩).mono ?_
    rw [HAB.out]
    rintro x v1 ⟨rfl, b1⟩
    replace BB := Lib.hid (BB.out.trans (b1.mono (by have := BB.out.size; have := HG.out; omega)))
    replace KA := Lib.hid (KA.out.past b1)
    replace KB := Lib.hid (KB.out.past b1)
    replace KC := Lib.hid (KC.out.past b1)
    replace KD := Lib.hid (KD.out.past b1)
    clear b1
    obtain ⟨p0, p1, p2, p3, p4, p5, p6⟩ := KA.out.ent
    simp only at p0 p1 p2 p3 p4 p5 p6
    obtain ⟨q0, q1, q2, q3, q4, q5, q6⟩ := KB.out.ent
    simp only at q0 q1 q2 q3 q4 q5 q6
    go_wp2_with fail
    clear p0 p1 p2 p3 p4 p5 p6 q0 q1 q2 q3 q4 q5 q6
    refine (Eq_c _ ⟨fr, boot, seq, ord, lev, stamp, t⟩ ⟨fr, boot, seq, ord2, lev2, st2, d2⟩).mono ?_
    rw [HQ.out]
    rintro x v2 ⟨rfl, b2⟩
    replace BB := Lib.hid (BB.out.trans (b2.mono (by have := BB.out.size; have := HG.out; omega)))
    replace KA := Lib.hid (KA.out.past b2)
    replace KB := Lib.hid (KB.out.past b2)
    replace KC := Lib.hid (KC.out.past b2)
    replace KD := Lib.hid (KD.out.past b2)
    clear b2
    obtain ⟨p0, p1, p2, p3, p4, p5, p6⟩ := KA.out.ent
    simp only at p0 p1 p2 p3 p4 p5 p6
    obtain ⟨q0, q1, q2, q3, q4, q5, q6⟩ := KC.out.ent
    simp only at q0 q1 q2 q3 q4 q5 q6
    go_wp2_with fail
    clear p0 p1 p2 p3 p4 p5 p6 q0 q1 q2 q3 q4 q5 q6
    refine (Same_c _ ⟨fr, boot, seq, ord, lev, stamp, t⟩ ⟨fr, boot, sq, ord, lev, stamp, t⟩).mono ?_
    rw [HAC.out]
    rintro x v3 ⟨rfl, b3⟩
    replace BB := Lib.hid (BB.out.trans (b3.mono (by have := BB.out.size; have := HG.out; omega)))
    replace KA := Lib.hid (KA.out.past b3)
    replace KB := Lib.hid (KB.out.past b3)
    replace KC := Lib.hid (KC.out.past b3)
    replace KD := Lib.hid (KD.out.past b3)
    clear b3
    obtain ⟨p0, p1, p2, p3, p4, p5, p6⟩ := KA.out.ent
    simp only at p0 p1 p2 p3 p4 p5 p6
    obtain ⟨q0, q1, q2, q3, q4, q5, q6⟩ := KD.out.ent
    simp only at q0 q1 q2 q3 q4 q5 q6
    go_wp2_with fail
    clear p0 p1 p2 p3 p4 p5 p6 q0 q1 q2 q3 q4 q5 q6
    refine (Same_c _ ⟨fr, boot, seq, ord, lev, stamp, t⟩ ⟨fr, bt, seq, ord, lev, stamp, t⟩).mono ?_
    rw [HAD.out]
    rintro x v4 ⟨rfl, b4⟩
    replace BB := Lib.hid (BB.out.trans (b4.mono (by have := BB.out.size; have := HG.out; omega)))
    replace KA := Lib.hid (KA.out.past b4)
    replace KB := Lib.hid (KB.out.past b4)
    replace KC := Lib.hid (KC.out.past b4)
    replace KD := Lib.hid (KD.out.past b4)
    clear b4
    obtain ⟨p0, p1, p2, p3, p4, p5, p6⟩ := KB.out.ent
    simp only at p0 p1 p2 p3 p4 p5 p6
    obtain ⟨q0, q1, q2, q3, q4, q5, q6⟩ := KA.out.ent
    simp only at q0 q1 q2 q3 q4 q5 q6
    go_wp2_with fail
    clear p0 p1 p2 p3 p4 p5 p6 q0 q1 q2 q3 q4 q5 q6
    refine (Same_c _ ⟨fr, boot, seq, ord2, lev2, st2, d2⟩ ⟨fr, boot, seq, ord, lev, stamp, t⟩).mono ?_
    rw [HBA.out]
    rintro x v5 ⟨rfl, b5⟩
    replace BB := Lib.hid (BB.out.trans (b5.mono (by have := BB.out.size; have := HG.out; omega)))
    replace KA := Lib.hid (KA.out.past b5)
    replace KB := Lib.hid (KB.out.past b5)
    replace KC := Lib.hid (KC.out.past b5)
    replace KD := Lib.hid (KD.out.past b5)
    clear b5
    obtain ⟨p0, p1, p2, p3, p4, p5, p6⟩ := KB.out.ent
    simp only at p0 p1 p2 p3 p4 p5 p6
    obtain ⟨q0, q1, q2, q3, q4, q5, q6⟩ := KA.out.ent
    simp only at q0 q1 q2 q3 q4 q5 q6
    go_wp2_with fail
    clear p0 p1 p2 p3 p4 p5 p6 q0 q1 q2 q3 q4 q5 q6
    refine (Eq_c _ ⟨fr, boot, seq, ord2, lev2, st2, d2⟩ ⟨fr, boot, seq, ord, lev, stamp, t⟩).mono ?_
    rw [HQ2.out]
    rintro x v6 ⟨rfl, b6⟩
    replace BB := Lib.hid (BB.out.trans (b6.mono (by have := BB.out.size; have := HG.out; omega)))
    replace KA := Lib.hid (KA.out.past b6)
    replace KB := Lib.hid (KB.out.past b6)
    replace KC := Lib.hid (KC.out.past b6)
    replace KD := Lib.hid (KD.out.past b6)
    clear b6
    go_wp2_with fail
    go_ret
    exact ⟨rfl, by rw [HG.out]; exact BB.out⟩
  cases z3 : (t.toList == d2.toList)
  · have HQ := Lib.hid (show PEnt.eqE ⟨fr, boot, seq, ord, lev, stamp, t⟩ ⟨fr, boot, seq, ord2, lev2, st2, d2⟩ = false by simp [PEnt.eqE, z0, z1, z2, z3])
    have HQ2 := Lib.hid ((eqE_comm ⟨fr, boot, seq, ord2, lev2, st2, d2⟩ ⟨fr, boot, seq, ord, lev, stamp, t⟩).trans HQ.out)
    obtain ⟨p0, p1, p2, p3, p4, p5, p6⟩ := KA.out.ent
    simp only at p0 p1 p2 p3 p4 p5 p6
    obtain ⟨q0, q1, q2, q3, q4, q5, q6⟩ := KB.out.ent
    simp only at q0 q1 q2 q3 q4 q5 q6
    go_wp2_with fail
    clear p0 p1 p2 p3 p4 p5 p6 q0 q1 q2 q3 q4 q5 q6 z0 z1 z2 z3
    refine (Same_c _ ⟨fr, boot, seq, ord, lev, stamp, t⟩ ⟨fr, boot, seq, ord2, lev2, st2, d2⟩).mono ?_
    rw [HAB.out]
    rintro x v1 ⟨rfl, b1⟩
    replace BB := Lib.hid (BB.out.trans (b1.mono (by have := BB.out.size; have := HG.out; omega)))
    replace KA := Lib.hid (KA.out.past b1)
    replace KB := Lib.hid (KB.out.past b1)
    replace KC := Lib.hid (KC.out.past b1)
    replace KD := Lib.hid (KD.out.past b1)
    clear b1
    obtain ⟨p0, p1, p2, p3, p4, p5, p6⟩ := KA.out.ent
    simp only at p0 p1 p2 p3 p4 p5 p6
    obtain ⟨q0, q1, q2, q3, q4, q5, q6⟩ := KB.out.ent
    simp only at q0 q1 q2 q3 q4 q5 q6
    go_wp2_with fail
    clear p0 p1 p2 p3 p4 p5 p6 q0 q1 q2 q3 q4 q5 q6
    refine (Eq_c _ ⟨fr, boot, seq, ord, lev, stamp, t⟩ ⟨fr, boot, seq, ord2, lev2, st2, d2⟩).mono ?_
    rw [HQ.out]
    rintro x v2 ⟨rfl, b2⟩
    replace BB := Lib.hid (BB.out.trans (b2.mono (by have := BB.out.size; have := HG.out; omega)))
    replace KA := Lib.hid (KA.out.past b2)
    replace KB := Lib.hid (KB.out.past b2)
    replace KC := Lib.hid (KC.out.past b2)
    replace KD := Lib.hid (KD.out.past b2)
    clear b2
    obtain ⟨p0, p1, p2, p3, p4, p5, p6⟩ := KA.out.ent
    simp only at p0 p1 p2 p3 p4 p5 p6
    obtain ⟨q0, q1, q2, q3, q4, q5, q6⟩ := KC.out.ent
    simp only at q0 q1 q2 q3 q4 q5 q6
    go_wp2_with fail
    clear p0 p1 p2 p3 p4 p5 p6 q0 q1 q2 q3 q4 q5 q6
    refine (Same_c _ ⟨fr, boot, seq, ord, lev, stamp, t⟩ ⟨fr, boot, sq, ord, lev, stamp, t⟩).mono ?_
    rw [HAC.out]
    rintro x v3 ⟨rfl, b3⟩
    replace BB := Lib.hid (BB.out.trans (b3.mono (by have := BB.out.size; have := HG.out; omega)))
    replace KA := Lib.hid (KA.out.past b3)
    replace KB := Lib.hid (KB.out.past b3)
    replace KC := Lib.hid (KC.out.past b3)
    replace KD := Lib.hid (KD.out.past b3)
    clear b3
    obtain ⟨p0, p1, p2, p3, p4, p5, p6⟩ := KA.out.ent
    simp only at p0 p1 p2 p3 p4 p5 p6
    obtain ⟨q0, q1, q2, q3, q4, q5, q6⟩ := KD.out.ent
    simp only at q0 q1 q2 q3 q4 q5 q6
    go_wp2_with fail
    clear p0 p1 p2 p3 p4 p5 p6 q0 q1 q2 q3 q4 q5 q6
    refine (Same_c _ ⟨fr, boot, seq, ord, lev, stamp, t⟩ ⟨fr, bt, seq, ord, lev, stamp, t⟩).mono ?_
    rw [HAD.out]
    rintro x v4 ⟨rfl, b4⟩
    replace BB := Lib.hid (BB.out.trans (b4.mono (by have := BB.out.size; have := HG.out; omega)))
    replace KA := Lib.hid (KA.out.past b4)
    replace KB := Lib.hid (KB.out.past b4)
    replace KC := Lib.hid (KC.out.past b4)
    replace KD := Lib.hid (KD.out.past b4)
    clear b4
    obtain ⟨p0, p1, p2, p3, p4, p5, p6⟩ := KB.out.ent
    simp only at p0 p1 p2 p3 p4 p5 p6
    obtain ⟨q0, q1, q2, q3, q4, q5, q6⟩ := KA.out.ent
    simp only at q0 q1 q2 q3 q4 q5 q6
    go_wp2_with fail
    clear p0 p1 p2 p3 p4 p5 p6 q0 q1 q2 q3 q4 q5 q6
    refine (Same_c _ ⟨fr, boot, seq, ord2, lev2, st2, d2⟩ ⟨fr, boot, seq, ord, lev, stamp, t⟩).mono ?_
    rw [HBA.out]
    rintro x v5 ⟨rfl, b5⟩
    replace BB := Lib.hid (BB.out.trans (b5.mono (by have := BB.out.size; have := HG.out; omega)))
    replace KA := Lib.hid (KA.out.past b5)
    replace KB := Lib.hid (KB.out.past b5)
    replace KC := Lib.hid (KC.out.past b5)
    replace KD := Lib.hid (KD.out.past b5)
    clear b5
    obtain ⟨p0, p1, p2, p3, p4, p5, p6⟩ := KB.out.ent
    simp only at p0 p1 p2 p3 p4 p5 p6
    obtain ⟨q0, q1, q2, q3, q4, q5, q6⟩ := KA.out.ent
    simp only at q0 q1 q2 q3 q4 q5 q6
    go_wp2_with fail
    clear p0 p1 p2 p3 p4 p5 p6 q0 q1 q2 q3 q4 q5 q6
    refine (Eq_c _ ⟨fr, boot, seq, ord2, lev2, st2, d2⟩ ⟨fr, boot, seq, ord, lev, stamp, t⟩).mono ?_
    rw [HQ2.out]
    rintro x v6 ⟨rfl, b6⟩
    replace BB := Lib.hid (BB.out.trans (b6.mono (by have := BB.out.size; have := HG.out; omega)))
    replace KA := Lib.hid (KA.out.past b6)
    replace KB := Lib.hid (KB.out.past b6)
    replace KC := Lib.hid (KC.out.past b6)
    replace KD := Lib.hid (KD.out.past b6)
    clear b6
    go_wp2_with fail
    go_ret
    exact ⟨rfl, by rw [HG.out]; exact BB.out⟩
  have HQ := Lib.hid (show PEnt.eqE ⟨fr, boot, seq, ord, lev, stamp, t⟩ ⟨fr, boot, seq, ord2, lev2, st2, d2⟩ = true by simp [PEnt.eqE, z0, z1, z2, z3])
  have HQ2 := Lib.hid ((eqE_comm ⟨fr, boot, seq, ord2, lev2, st2, d2⟩ ⟨fr, boot, seq, ord, lev, stamp, t⟩).trans HQ.out)
  obtain ⟨p0, p1, p2, p3, p4, p5, p6⟩ := KA.out.ent
  simp only at p0 p1 p2 p3 p4 p5 p6
  obtain ⟨q0, q1, q2, q3, q4, q5, q6⟩ := KB.out.ent
  simp only at q0 q1 q2 q3 q4 q5 q6
  go_wp2_with fail
  clear p0 p1 p2 p3 p4 p5 p6 q0 q1 q2 q3 q4 q5 q6 z0 z1 z2 z3
  refine (Same_c _ ⟨fr, boot, seq, ord, lev, stamp, t⟩ ⟨fr, boot, seq, ord2, lev2, st2, d2⟩).mono ?_
  rw [HAB.out]
  rintro x v1 ⟨rfl, b1⟩
  replace BB := Lib.hid (BB.out.trans (b1.mono (by have := BB.out.size; have := HG.out; omega)))
  replace KA := Lib.hid (KA.out.past b1)
  replace KB := Lib.hid (KB.out.past b1)
  replace KC := Lib.hid (KC.out.past b1)
  replace KD := Lib.hid (KD.out.past b1)
  clear b1
  obtain ⟨p0, p1, p2, p3, p4, p5, p6⟩ := KA.out.ent
  simp only at p0 p1 p2 p3 p4 p5 p6
  obtain ⟨q0, q1, q2, q3, q4, q5, q6⟩ := KB.out.ent
  simp only at q0 q1 q2 q3 q4 q5 q6
  go_wp2_with fail
  clear p0 p1 p2 p3 p4 p5 p6 q0 q1 q2 q3 q4 q5 q6
  refine (Eq_c _ ⟨fr, boot, seq, ord, lev, stamp, t⟩ ⟨fr, boot, seq, ord2, lev2, st2, d2⟩).mono ?_
  rw [HQ.out]
  rintro x v2 ⟨rfl, b2⟩
  replace BB := Lib.hid (BB.out.trans (b2.mono (by have := BB.out.size; have := HG.out; omega)))
  replace KA := Lib.hid (KA.out.past b2)
  replace KB := Lib.hid (KB.out.past b2)
  replace KC := Lib.hid (KC.out.past b2)
  replace KD := Lib.hid (KD.out.past b2)
  clear b2
  obtain ⟨p0, p1, p2, p3, p4, p5, p6⟩ := KA.out.ent
  simp only at p0 p1 p2 p3 p4 p5 p6
  obtain ⟨q0, q1, q2, q3, q4, q5, q6⟩ := KC.out.ent
  simp only at q0 q1 q2 q3 q4 q5 q6
  go_wp2_with fail
  clear p0 p1 p2 p3 p4 p5 p6 q0 q1 q2 q3 q4 q5 q6
  refine (Same_c _ ⟨fr, boot, seq, ord, lev, stamp, t⟩ ⟨fr, boot, sq, ord, lev, stamp, t⟩).mono ?_
  rw [HAC.out]
  rintro x v3 ⟨rfl, b3⟩
  replace BB := Lib.hid (BB.out.trans (b3.mono (by have := BB.out.size; have := HG.out; omega)))
  replace KA := Lib.hid (KA.out.past b3)
  replace KB := Lib.hid (KB.out.past b3)
  replace KC := Lib.hid (KC.out.past b3)
  replace KD := Lib.hid (KD.out.past b3)
  clear b3
  obtain ⟨p0, p1, p2, p3, p4, p5, p6⟩ := KA.out.ent
  simp only at p0 p1 p2 p3 p4 p5 p6
  obtain ⟨q0, q1, q2, q3, q4, q5, q6⟩ := KD.out.ent
  simp only at q0 q1 q2 q3 q4 q5 q6
  go_wp2_with fail
  clear p0 p1 p2 p3 p4 p5 p6 q0 q1 q2 q3 q4 q5 q6
  refine (Same_c _ ⟨fr, boot, seq, ord, lev, stamp, t⟩ ⟨fr, bt, seq, ord, lev, stamp, t⟩).mono ?_
  rw [HAD.out]
  rintro x v4 ⟨rfl, b4⟩
  replace BB := Lib.hid (BB.out.trans (b4.mono (by have := BB.out.size; have := HG.out; omega)))
  replace KA := Lib.hid (KA.out.past b4)
  replace KB := Lib.hid (KB.out.past b4)
  replace KC := Lib.hid (KC.out.past b4)
  replace KD := Lib.hid (KD.out.past b4)
  clear b4
  obtain ⟨p0, p1, p2, p3, p4, p5, p6⟩ := KB.out.ent
  simp only at p0 p1 p2 p3 p4 p5 p6
  obtain ⟨q0, q1, q2, q3, q4, q5, q6⟩ := KA.out.ent
  simp only at q0 q1 q2 q3 q4 q5 q6
  go_wp2_with fail
  clear p0 p1 p2 p3 p4 p5 p6 q0 q1 q2 q3 q4 q5 q6
  refine (Same_c _ ⟨fr, boot, seq, ord2, lev2, st2, d2⟩ ⟨fr, boot, seq, ord, lev, stamp, t⟩).mono ?_
  rw [HBA.out]
  rintro x v5 ⟨rfl, b5⟩
  replace BB := Lib.hid (BB.out.trans (b5.mono (by have := BB.out.size; have := HG.out; omega)))
  replace KA := Lib.hid (KA.out.past b5)
  replace KB := Lib.hid (KB.out.past b5)
  replace KC := Lib.hid (KC.out.past b5)
  replace KD := Lib.hid (KD.out.past b5)
  clear b5
  obtain ⟨p0, p1, p2, p3, p4, p5, p6⟩ := KB.out.ent
  simp only at p0 p1 p2 p3 p4 p5 p6
  obtain ⟨q0, q1, q2, q3, q4, q5, q6⟩ := KA.out.ent
  simp only at q0 q1 q2 q3 q4 q5 q6
  go_wp2_with fail
  clear p0 p1 p2 p3 p4 p5 p6 q0 q1 q2 q3 q4 q5 q6
  refine (Eq_c _ ⟨fr, boot, seq, ord2, lev2, st2, d2⟩ ⟨fr, boot, seq, ord, lev, stamp, t⟩).mono ?_
  rw [HQ2.out]
  rintro x v6 ⟨rfl, b6⟩
  replace BB := Lib.hid (BB.out.trans (b6.mono (by have := BB.out.size; have := HG.out; omega)))
  replace KA := Lib.hid (KA.out.past b6)
  replace KB := Lib.hid (KB.out.past b6)
  replace KC := Lib.hid (KC.out.past b6)
  replace KD := Lib.hid (KD.out.past b6)
  clear b6
  go_wp2_with fail
  go_ret
  exact ⟨rfl, by rw [HG.out]; exact BB.out⟩
end Go.Proofs.Ytoflbgmmnljloaa
