/- The walk of CrossBest. Made by program (gen10w.py). -/
import Derived.Test.YtapfdceopbkcgaaCrossI
import Derived.Test.YtapfdceopbkcgaaCrossJ
namespace Go.Proofs.Ytapfdceopbkcgaa
open Go.RowKit
open PDrift (pr)
open PCross (at_ cnt)

set_option maxHeartbeats 2000000 in
set_option maxRecDepth 100000 in
theorem CrossBest_w (w : World) (A : Option Addr) (c n : Nat) (l : List (Int × Int)) (h : Rd w w.heap.size A c 2 n (tcs l)) (hF : PCross.Fits l) (a0 : Int) :
    Calls Try.prog 6 #[.slice A n c, .int .i64 a0] w fun e w' => e = .returned (.bool true) ∧ Below w.heap.size w w' := by
  have R0 := Lib.hid h
  have HF0 := Lib.hid hF
  clear h hF
  go_enter Try.func6, Try.ntmps6
  go_wp2_with fail
  refine (begun_c w).mono ?_
  rintro e w1 ⟨rfl, b1⟩
  have R1 := Lib.hid (R0.out.past b1)
  have BS := Lib.hid b1
  clear b1 R0
  go_wp2_with fail
  refine (of_c w1 A c n l (R1.out.more BS.out.size)).mono ?_
  rintro e w2 ⟨A1, c1, A2, c2, m, rfl, hm, hL, r1, r2, b2⟩
  have HF := Lib.hid (HF0.out.take 12)
  generalize l.take 12 = L at *
  have RA := Lib.hid r1.tight
  have RB := Lib.hid r2
  have BT := Lib.hid (BS.out.trans (b2.mono BS.out.size))
  clear r1 r2 R1 HF0
  clear RB
  go_wp2_with fail
  refine (cBest_c w2 A1 c1 m L RA.out.tight (by omega) HF.out).mono ?_
  rintro e v1 ⟨lo, hi, k, rfl, bv1, hk, hB⟩
  unfold rg
  have HB := Lib.hid hB
  clear hB
  have av1 := (Below.refl v1.heap.size v1).alloc (Nat.le_refl _) (.cells #[.int .i64 lo, .int .i64 hi] 28)
  have bbv1 := bv1.trans (av1.mono bv1.size)
  have RA := Lib.hid (RA.out.past bbv1)
  have BT := Lib.hid (BT.out.trans (bbv1.mono BT.out.size))
  have K1 := Lib.hid (Blk.new v1 #[.int .i64 lo, .int .i64 hi] 28)
  go_wp2_with fail
  clear bbv1 av1 bv1
  generalize v1.alloc (.cells #[.int .i64 lo, .int .i64 hi] 28) = u1 at *
  generalize v1.heap.size = g1 at *
  obtain ⟨v, hv⟩ : ∃ v, cnt L a0 = v := ⟨_, rfl⟩
  have HV := Lib.hid hv
  have hvk := HB.out.low.all a0
  rw [hv] at hvk
  clear hv
  refine (cCount_c u1 A1 c1 m L RA.out.tight (by omega) (a0)).mono ?_
  rw [HV.out]
  rintro e v2 ⟨rfl, bv2⟩
  have RA := Lib.hid (RA.out.past bv2)
  have K1 := Lib.hid (K1.out.past bv2)
  have BT := Lib.hid (BT.out.trans (bv2.mono BT.out.size))
  clear bv2
  rcases Nat.eq_zero_or_pos k with rfl | hk0
  · have e1 := HB.out.low.none rfl
    have e2 := HB.out.none rfl
    subst e1 e2
    have c0 := K1.out.cell (i := 0) rfl
    have c1 := K1.out.cell (i := 1) rfl
    have hv0 : ¬ (0 : Int) < (v : Int) := by omega
    go_wp2_with fail
    go_ret
    exact ⟨rfl, BT.out⟩
  · have HLO := Lib.hid (HB.out.low.some hk0)
    have HHI := Lib.hid (HB.out.some hk0)
    have hle := HHI.out.1
    have hkz : ((k : Int) == (0 : Int)) = false := by simp; omega
    have hvz : ¬ (k : Int) < (v : Int) := by omega
    have CLO := Lib.hid HLO.out.1
    have CHI := Lib.hid (HHI.out.2.1 hi hle (Int.le_refl _))
    have KR := Lib.hid (HF.out.range (t := hi) (by rw [CHI.out]; exact hk0))
    have KL := Lib.hid (HF.out.range (t := lo) (by rw [CLO.out]; exact hk0))
    have d0 := K1.out.cell (i := 0) rfl
    have d1 := K1.out.cell (i := 1) rfl
    generalize v2 = x1 at *
    go_upto_region 10 with fail
    go_cut [75] from 21 (fun s75 wx => s75 = .bool false ∧ Hid (Rd wx w2.heap.size A1 c1 2 m (tcs L)) ∧ Hid (Blk wx g1 28 [.int .i64 lo, .int .i64 hi]) ∧ Hid (Below w.heap.size w wx))
    case first =>
      have hgt : ¬ hi < lo := by omega
      rcases (by omega : a0 < lo ∨ ¬ a0 < lo ∧ a0 ≤ hi ∨ ¬ a0 < lo ∧ ¬ a0 ≤ hi) with j1 | ⟨j1, j2⟩ | ⟨j1, j2⟩
      · skip
        have j0 : ¬ lo ≤ a0 := by omega
        clear j1
        go_wp2_with fail
        refine (cCount_c x1 A1 c1 m L RA.out.tight (by omega) (lo)).mono ?_
        rw [CLO.out]
        rintro e v3 ⟨rfl, bv3⟩
        have RA := Lib.hid (RA.out.past bv3)
        have K1 := Lib.hid (K1.out.past bv3)
        have BT := Lib.hid (BT.out.trans (bv3.mono BT.out.size))
        clear bv3
        have d0 := K1.out.cell (i := 0) rfl
        have d1 := K1.out.cell (i := 1) rfl
        go_wp2_with fail
        refine (cCount_c v3 A1 c1 m L RA.out.tight (by omega) (hi)).mono ?_
        rw [CHI.out]
        rintro e v4 ⟨rfl, bv4⟩
        have RA := Lib.hid (RA.out.past bv4)
        have K1 := Lib.hid (K1.out.past bv4)
        have BT := Lib.hid (BT.out.trans (bv4.mono BT.out.size))
        clear bv4
        have d0 := K1.out.cell (i := 0) rfl
        have d1 := K1.out.cell (i := 1) rfl
        go_wp2_with fail
        go_meet
        case rel => exact ⟨rfl, RA, K1, BT⟩
      · skip
        have j0 : lo ≤ a0 := by omega
        have CAT := Lib.hid (HHI.out.2.1 a0 j0 j2)
        clear j1
        go_wp2_with fail
        refine (cCount_c x1 A1 c1 m L RA.out.tight (by omega) (lo)).mono ?_
        rw [CLO.out]
        rintro e v13 ⟨rfl, bv13⟩
        have RA := Lib.hid (RA.out.past bv13)
        have K1 := Lib.hid (K1.out.past bv13)
        have BT := Lib.hid (BT.out.trans (bv13.mono BT.out.size))
        clear bv13
        have d0 := K1.out.cell (i := 0) rfl
        have d1 := K1.out.cell (i := 1) rfl
        go_wp2_with fail
        refine (cCount_c v13 A1 c1 m L RA.out.tight (by omega) (hi)).mono ?_
        rw [CHI.out]
        rintro e v14 ⟨rfl, bv14⟩
        have RA := Lib.hid (RA.out.past bv14)
        have K1 := Lib.hid (K1.out.past bv14)
        have BT := Lib.hid (BT.out.trans (bv14.mono BT.out.size))
        clear bv14
        have d0 := K1.out.cell (i := 0) rfl
        have d1 := K1.out.cell (i := 1) rfl
        go_wp2_with fail
        refine (cCount_c v14 A1 c1 m L RA.out.tight (by omega) (a0)).mono ?_
        rw [CAT.out]
        rintro e v15 ⟨rfl, bv15⟩
        have RA := Lib.hid (RA.out.past bv15)
        have K1 := Lib.hid (K1.out.past bv15)
        have BT := Lib.hid (BT.out.trans (bv15.mono BT.out.size))
        clear bv15
        go_wp2_with fail
        go_meet
        case rel => exact ⟨rfl, RA, K1, BT⟩
      · skip
        have j0 : lo ≤ a0 := by omega
        clear j1
        go_wp2_with fail
        refine (cCount_c x1 A1 c1 m L RA.out.tight (by omega) (lo)).mono ?_
        rw [CLO.out]
        rintro e v23 ⟨rfl, bv23⟩
        have RA := Lib.hid (RA.out.past bv23)
        have K1 := Lib.hid (K1.out.past bv23)
        have BT := Lib.hid (BT.out.trans (bv23.mono BT.out.size))
        clear bv23
        have d0 := K1.out.cell (i := 0) rfl
        have d1 := K1.out.cell (i := 1) rfl
        go_wp2_with fail
        refine (cCount_c v23 A1 c1 m L RA.out.tight (by omega) (hi)).mono ?_
        rw [CHI.out]
        rintro e v24 ⟨rfl, bv24⟩
        have RA := Lib.hid (RA.out.past bv24)
        have K1 := Lib.hid (K1.out.past bv24)
        have BT := Lib.hid (BT.out.trans (bv24.mono BT.out.size))
        clear bv24
        have d0 := K1.out.cell (i := 0) rfl
        have d1 := K1.out.cell (i := 1) rfl
        go_wp2_with fail
        go_meet
        case rel => exact ⟨rfl, RA, K1, BT⟩
    case rest =>
      obtain ⟨rfl, RA2, K2, BT2⟩ := hcut
      have d0 := K2.out.cell (i := 0) rfl
      have d1 := K2.out.cell (i := 1) rfl
      have NH := Lib.hid HHI.out.2.2
      have NL := Lib.hid (HLO.out.2 (lo - 1) (by omega))
      obtain ⟨q1, hq1⟩ : ∃ q, cnt L (hi + 1) = q := ⟨_, rfl⟩
      obtain ⟨q2, hq2⟩ : ∃ q, cnt L (lo - 1) = q := ⟨_, rfl⟩
      have r1 := KR.out
      have r2 := KL.out
      have n1 := NH.out
      have n2 := NL.out
      rw [hq1] at n1
      rw [hq2] at n2
      have Q1 := Lib.hid hq1
      have Q2 := Lib.hid hq2
      have z1 : ((q1 : Int) == (k : Int)) = false := by simp; omega
      have z2 : ((q2 : Int) == (k : Int)) = false := by simp; omega
      have z1' : ((q1 : Int) != (k : Int)) = true := by simp; omega
      have z2' : ((q2 : Int) != (k : Int)) = true := by simp; omega
      clear hq1 hq2 n1 n2 RA K1 BT d0 d1
      have RA := RA2
      have K1 := K2
      have BT := BT2
      clear RA2 K2 BT2
      rcases (by omega : hi = 9223372036854775807 ∨ ¬ hi = 9223372036854775807) with h1 | h1
      · skip
        rcases (by omega : lo = -9223372036854775808 ∨ ¬ lo = -9223372036854775808) with h2 | h2
        · skip
          subst h1
          subst h2
          have d0 := K1.out.cell (i := 0) rfl
          have d1 := K1.out.cell (i := 1) rfl
          go_wp2_with fail
          go_ret
          exact ⟨rfl, BT.out⟩
        · skip
          subst h1
          have y2 : (lo == -9223372036854775808) = false := by simp [h2]
          have hin2 : -9223372036854775808 ≤ lo - 1 := by omega
          have d0 := K1.out.cell (i := 0) rfl
          have d1 := K1.out.cell (i := 1) rfl
          go_wp2_with fail
          refine (cCount_c wc A1 c1 m L RA.out.tight (by omega) (lo - 1)).mono ?_
          rw [Q2.out]
          rintro e v211 ⟨rfl, bv211⟩
          have RA := Lib.hid (RA.out.past bv211)
          have K1 := Lib.hid (K1.out.past bv211)
          have BT := Lib.hid (BT.out.trans (bv211.mono BT.out.size))
          clear bv211
          go_wp2_with fail
          go_ret
          exact ⟨rfl, BT.out⟩
      · skip
        rcases (by omega : lo = -9223372036854775808 ∨ ¬ lo = -9223372036854775808) with h2 | h2
        · skip
          have y1 : (hi == 9223372036854775807) = false := by simp [h1]
          have hin1 : hi + 1 ≤ 9223372036854775807 := by omega
          subst h2
          have d0 := K1.out.cell (i := 0) rfl
          have d1 := K1.out.cell (i := 1) rfl
          go_wp2_with fail
          refine (cCount_c wc A1 c1 m L RA.out.tight (by omega) (hi + 1)).mono ?_
          rw [Q1.out]
          rintro e v221 ⟨rfl, bv221⟩
          have RA := Lib.hid (RA.out.past bv221)
          have K1 := Lib.hid (K1.out.past bv221)
          have BT := Lib.hid (BT.out.trans (bv221.mono BT.out.size))
          clear bv221
          have d0 := K1.out.cell (i := 0) rfl
          have d1 := K1.out.cell (i := 1) rfl
          go_wp2_with fail
          go_ret
          exact ⟨rfl, BT.out⟩
        · skip
          have y1 : (hi == 9223372036854775807) = false := by simp [h1]
          have hin1 : hi + 1 ≤ 9223372036854775807 := by omega
          have y2 : (lo == -9223372036854775808) = false := by simp [h2]
          have hin2 : -9223372036854775808 ≤ lo - 1 := by omega
          have d0 := K1.out.cell (i := 0) rfl
          have d1 := K1.out.cell (i := 1) rfl
          go_wp2_with fail
          refine (cCount_c wc A1 c1 m L RA.out.tight (by omega) (hi + 1)).mono ?_
          rw [Q1.out]
          rintro e v231 ⟨rfl, bv231⟩
          have RA := Lib.hid (RA.out.past bv231)
          have K1 := Lib.hid (K1.out.past bv231)
          have BT := Lib.hid (BT.out.trans (bv231.mono BT.out.size))
          clear bv231
          have d0 := K1.out.cell (i := 0) rfl
          have d1 := K1.out.cell (i := 1) rfl
          go_wp2_with fail
          refine (cCount_c v231 A1 c1 m L RA.out.tight (by omega) (lo - 1)).mono ?_
          rw [Q2.out]
          rintro e v232 ⟨rfl, bv232⟩
          have RA := Lib.hid (RA.out.past bv232)
          have K1 := Lib.hid (K1.out.past bv232)
          have BT := Lib.hid (BT.out.trans (bv232.mono BT.out.size))
          clear bv232
          go_wp2_with fail
          go_ret
          exact ⟨rfl, BT.out⟩
end Go.Proofs.Ytapfdceopbkcgaa
