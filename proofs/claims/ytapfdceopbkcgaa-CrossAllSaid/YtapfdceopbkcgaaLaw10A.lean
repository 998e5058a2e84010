/- The walk of CrossAll. Made by program (gen10w.py). -/
import Derived.Test.YtapfdceopbkcgaaCrossI
import Derived.Test.YtapfdceopbkcgaaCrossJ
namespace Go.Proofs.Ytapfdceopbkcgaa
open Go.RowKit
open PDrift (pr)
open PCross (at_ cnt)

set_option maxHeartbeats 2000000 in
set_option maxRecDepth 100000 in
theorem CrossAll_w (w : World) (A : Option Addr) (c n : Nat) (l : List (Int × Int)) (h : Rd w w.heap.size A c 2 n (tcs l)) (hF : PCross.Fits l) (a0 a1 : Int) :
    Calls Try.prog 3 #[.slice A n c, .int .i64 a0, .int .i64 a1] w fun e w' => e = .returned (.bool true) ∧ Below w.heap.size w w' := by
  have R0 := Lib.hid h
  have HF0 := Lib.hid hF
  clear h hF
  go_enter Try.func3, Try.ntmps3
  go_wp2_with fail
  refine (begun_c w).mono ?_
  rintro e w1 ⟨rfl, b1⟩
  have R1 := Lib.hid (R0.out.past b1)
  have BS := Lib.hid b1
  clear b1 R0
  go_wp2_with fail
  refine (of_c w1 A c n l (R1.out.more BS.out.size)).mono ?_
  rintro e w2 ⟨A1, c1, A2, c2, m, rfl, hm, hL, r1, r2, b2⟩
  have HF := Lib.hid (HF0.out.take 12)
  generalize l.take 12 = L at *
  have RA := Lib.hid r1.tight
  have RB := Lib.hid r2
  have BT := Lib.hid (BS.out.trans (b2.mono BS.out.size))
  clear r1 r2 R1 HF0
  go_wp2_with fail
  refine (cBest_c w2 A1 c1 m L RA.out.tight (by omega) HF.out).mono ?_
  rintro e v1 ⟨lo, hi, k, rfl, bv1, hk, hB⟩
  unfold rg
  have HB := Lib.hid hB
  clear hB
  have av1 := (Below.refl v1.heap.size v1).alloc (Nat.le_refl _) (.cells #[.int .i64 lo, .int .i64 hi] 28)
  have bbv1 := bv1.trans (av1.mono bv1.size)
  have RA := Lib.hid (RA.out.past bbv1)
  have RB := Lib.hid (RB.out.past bbv1)
  have BT := Lib.hid (BT.out.trans (bbv1.mono BT.out.size))
  have K1 := Lib.hid (Blk.new v1 #[.int .i64 lo, .int .i64 hi] 28)
  go_wp2_with fail
  clear bbv1 av1 bv1
  generalize v1.alloc (.cells #[.int .i64 lo, .int .i64 hi] 28) = u1 at *
  generalize v1.heap.size = g1 at *
  refine (rBest_c u1 A2 c2 m L RB.out.tight (by omega) HF.out).mono ?_
  rintro e v2 ⟨lo2, hi2, k2, rfl, bv2, hk2, hB2⟩
  unfold rg
  obtain ⟨rfl, rfl, rfl⟩ := PCross.IsBest.uniq (fun _ => rfl) HB.out hB2
  have av2 := (Below.refl v2.heap.size v2).alloc (Nat.le_refl _) (.cells #[.int .i64 lo, .int .i64 hi] 31)
  have bbv2 := bv2.trans (av2.mono bv2.size)
  have RA := Lib.hid (RA.out.past bbv2)
  have RB := Lib.hid (RB.out.past bbv2)
  have K1 := Lib.hid (K1.out.past bbv2)
  have BT := Lib.hid (BT.out.trans (bbv2.mono BT.out.size))
  have K2 := Lib.hid (Blk.new v2 #[.int .i64 lo, .int .i64 hi] 31)
  go_wp2_with fail
  clear bbv2 av2 bv2
  generalize v2.alloc (.cells #[.int .i64 lo, .int .i64 hi] 31) = u2 at *
  generalize v2.heap.size = g2 at *
  refine (cMost_c u2 A1 c1 m L RA.out.tight (by omega) a1).mono ?_
  rintro e v3 ⟨ml, mh, ok, rfl, bv3, hM⟩
  unfold rg
  have HM := Lib.hid hM
  clear hM
  have av3 := (Below.refl v3.heap.size v3).alloc (Nat.le_refl _) (.cells #[.int .i64 ml, .int .i64 mh] 28)
  have bbv3 := bv3.trans (av3.mono bv3.size)
  have RA := Lib.hid (RA.out.past bbv3)
  have RB := Lib.hid (RB.out.past bbv3)
  have K1 := Lib.hid (K1.out.past bbv3)
  have K2 := Lib.hid (K2.out.past bbv3)
  have BT := Lib.hid (BT.out.trans (bbv3.mono BT.out.size))
  have K3 := Lib.hid (Blk.new v3 #[.int .i64 ml, .int .i64 mh] 28)
  go_wp2_with fail
  clear bbv3 av3 bv3
  generalize v3.alloc (.cells #[.int .i64 ml, .int .i64 mh] 28) = u3 at *
  generalize v3.heap.size = g3 at *
  refine (rHull_c u3 A2 c2 m L RB.out.tight (by omega) a1).mono ?_
  rintro e v4 ⟨ml2, mh2, ok2, rfl, bv4, hM2⟩
  unfold rg
  obtain ⟨rfl, rfl, rfl⟩ := PCross.IsMost.uniq (fun _ => rfl) HM.out hM2
  have av4 := (Below.refl v4.heap.size v4).alloc (Nat.le_refl _) (.cells #[.int .i64 ml, .int .i64 mh] 31)
  have bbv4 := bv4.trans (av4.mono bv4.size)
  have RA := Lib.hid (RA.out.past bbv4)
  have RB := Lib.hid (RB.out.past bbv4)
  have K1 := Lib.hid (K1.out.past bbv4)
  have K2 := Lib.hid (K2.out.past bbv4)
  have K3 := Lib.hid (K3.out.past bbv4)
  have BT := Lib.hid (BT.out.trans (bbv4.mono BT.out.size))
  have K4 := Lib.hid (Blk.new v4 #[.int .i64 ml, .int .i64 mh] 31)
  go_wp2_with fail
  clear bbv4 av4 bv4
  generalize v4.alloc (.cells #[.int .i64 ml, .int .i64 mh] 31) = u4 at *
  generalize v4.heap.size = g4 at *
  refine (cCount_c u4 A1 c1 m L RA.out.tight (by omega) a0).mono ?_
  rintro e v5 ⟨rfl, bv5⟩
  have RA := Lib.hid (RA.out.past bv5)
  have RB := Lib.hid (RB.out.past bv5)
  have K1 := Lib.hid (K1.out.past bv5)
  have K2 := Lib.hid (K2.out.past bv5)
  have K3 := Lib.hid (K3.out.past bv5)
  have K4 := Lib.hid (K4.out.past bv5)
  have BT := Lib.hid (BT.out.trans (bv5.mono BT.out.size))
  clear bv5
  have c10 := K1.out.cell (i := 0) rfl
  have c11 := K1.out.cell (i := 1) rfl
  have c20 := K2.out.cell (i := 0) rfl
  have c21 := K2.out.cell (i := 1) rfl
  have c30 := K3.out.cell (i := 0) rfl
  have c31 := K3.out.cell (i := 1) rfl
  have c40 := K4.out.cell (i := 0) rfl
  have c41 := K4.out.cell (i := 1) rfl
  go_wp2_with fail
  refine (rCount_c v5 _ A2 c2 m L RB.out (by omega) a0).mono ?_
  rintro e v6 ⟨rfl, hw6⟩
  obtain rfl := hw6.symm
  go_wp2_with fail
  go_ret
  exact ⟨by simp, BT.out⟩
end Go.Proofs.Ytapfdceopbkcgaa
