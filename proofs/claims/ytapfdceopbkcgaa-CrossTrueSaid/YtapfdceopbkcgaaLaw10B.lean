/- The walk of CrossTrue. Made by program (gen10w.py). -/
import Derived.Test.YtapfdceopbkcgaaCrossI
import Derived.Test.YtapfdceopbkcgaaCrossJ
namespace Go.Proofs.Ytapfdceopbkcgaa
open Go.RowKit
open PDrift (pr)
open PCross (at_ cnt)

set_option maxHeartbeats 2000000 in
set_option maxRecDepth 100000 in
theorem CrossTrue_w (w : World) (A : Option Addr) (c n : Nat) (l : List (Int × Int)) (h : Rd w w.heap.size A c 2 n (tcs l)) (hF : PCross.Fits l) (a0 : Int) :
    Calls Try.prog 4 #[.slice A n c, .int .i64 a0] w fun e w' => e = .returned (.bool true) ∧ Below w.heap.size w w' := by
  have R0 := Lib.hid h
  have HF0 := Lib.hid hF
  clear h hF
  go_enter Try.func4, Try.ntmps4
  go_wp2_with fail
  refine (begun_c w).mono ?_
  rintro e w1 ⟨rfl, b1⟩
  have R1 := Lib.hid (R0.out.past b1)
  have BS := Lib.hid b1
  clear b1 R0
  go_wp2_with fail
  refine (of_c w1 A c n l (R1.out.more BS.out.size)).mono ?_
  rintro e w2 ⟨A1, c1, A2, c2, m, rfl, hm, hL, r1, r2, b2⟩
  have HF := Lib.hid (HF0.out.take 12)
  generalize l.take 12 = L at *
  have RA := Lib.hid r1.tight
  have RB := Lib.hid r2
  have BT := Lib.hid (BS.out.trans (b2.mono BS.out.size))
  clear r1 r2 R1 HF0
  obtain ⟨q, hq⟩ : ∃ q, q = m / 2 := ⟨_, rfl⟩
  have hd : (m : Int) / 2 = (q : Int) := by omega
  have hqm : q ≤ m := by omega
  have HQ := Lib.hid hq
  obtain ⟨v, hv⟩ : ∃ v, cnt L a0 = v := ⟨_, rfl⟩
  have HV := Lib.hid hv
  clear hq hv
  go_wp2_with fail
  refine (rCount_c w2 _ A2 c2 m L RB.out (by omega) a0).mono ?_
  rw [HV.out]
  rintro e v1 ⟨rfl, hw1⟩
  obtain rfl := hw1.symm
  by_cases hlt : v < q + 1
  · go_wp2_with fail
    go_ret
    exact ⟨rfl, BT.out⟩
  · skip
    have hcv : ¬ v < q + 1 := hlt
    go_wp2_with fail
    refine (cMost_c w2 A1 c1 m L RA.out.tight (by omega) ((q : Int) + 1)).mono ?_
    rintro e v2 ⟨ml, mh, ok, rfl, bv2, hM⟩
    unfold rg
    have HM := Lib.hid hM
    clear hM
    have av2 := (Below.refl v2.heap.size v2).alloc (Nat.le_refl _) (.cells #[.int .i64 ml, .int .i64 mh] 28)
    have bbv2 := bv2.trans (av2.mono bv2.size)
    have RA := Lib.hid (RA.out.past bbv2)
    have RB := Lib.hid (RB.out.past bbv2)
    have BT := Lib.hid (BT.out.trans (bbv2.mono BT.out.size))
    have K2 := Lib.hid (Blk.new v2 #[.int .i64 ml, .int .i64 mh] 28)
    go_wp2_with fail
    clear bbv2 av2 bv2
    generalize v2.alloc (.cells #[.int .i64 ml, .int .i64 mh] 28) = u2 at *
    generalize v2.heap.size = g2 at *
    refine (cBest_c u2 A1 c1 m L RA.out.tight (by omega) HF.out).mono ?_
    rintro e v3 ⟨lo, hi, k, rfl, bv3, hk, hB⟩
    unfold rg
    have HB := Lib.hid hB
    clear hB
    have RA := Lib.hid (RA.out.past bv3)
    have RB := Lib.hid (RB.out.past bv3)
    have K2 := Lib.hid (K2.out.past bv3)
    have BT := Lib.hid (BT.out.trans (bv3.mono BT.out.size))
    clear bv3
    cases ok
    · exfalso
      rcases (HM.out.no rfl).2.2 with e | e
      · omega
      · have := e a0
        rw [HV.out] at this; omega
    · obtain ⟨-, -, -, hy⟩ := HM.out.yes rfl
      obtain ⟨y1, y2⟩ := hy a0 (by rw [HV.out]; omega)
      have hkv := HB.out.low.all a0
      rw [HV.out] at hkv
      have c10 := K2.out.cell (i := 0) rfl
      have c11 := K2.out.cell (i := 1) rfl
      have BT := Lib.hid (BT.out.alloc BT.out.size (.cells #[.int .i64 lo, .int .i64 hi] 28))
      have hg1 := K2.out.lt
      have z1 : (q : Int) + 1 ≤ (k : Int) := by omega
      clear hy hlt hcv
      go_wp2_with fail
      go_ret
      exact ⟨rfl, BT.out⟩
end Go.Proofs.Ytapfdceopbkcgaa
