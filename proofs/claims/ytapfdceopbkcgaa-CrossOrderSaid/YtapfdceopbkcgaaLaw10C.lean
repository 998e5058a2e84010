/- The walk of CrossOrder. Made by program (gen10w.py). -/
import Derived.Test.YtapfdceopbkcgaaCrossI
import Derived.Test.YtapfdceopbkcgaaCrossJ
namespace Go.Proofs.Ytapfdceopbkcgaa
open Go.RowKit
open PDrift (pr)
open PCross (at_ cnt)

set_option maxHeartbeats 2000000 in
set_option maxRecDepth 100000 in
theorem CrossOrder_w (w : World) (A : Option Addr) (c n : Nat) (l : List (Int × Int)) (h : Rd w w.heap.size A c 2 n (tcs l)) (hF : PCross.Fits l) (a0 : Int) :
    Calls Try.prog 5 #[.slice A n c, .int .i64 a0] w fun e w' => e = .returned (.bool true) ∧ Below w.heap.size w w' := by
  have R0 := Lib.hid h
  have HF0 := Lib.hid hF
  clear h hF
  go_enter Try.func5, Try.ntmps5
  go_wp2_with fail
  refine (begun_c w).mono ?_
  rintro e w1 ⟨rfl, b1⟩
  have R1 := Lib.hid (R0.out.past b1)
  have BS := Lib.hid b1
  clear b1 R0
  go_wp2_with fail
  refine (of_c w1 A c n l (R1.out.more BS.out.size)).mono ?_
  rintro e w2 ⟨A1, c1, A2, c2, m, rfl, hm, hL, r1, r2, b2⟩
  have HF := Lib.hid (HF0.out.take 12)
  generalize l.take 12 = L at *
  have RA := Lib.hid r1.tight
  have RB := Lib.hid r2
  have BT := Lib.hid (BS.out.trans (b2.mono BS.out.size))
  clear r1 r2 R1 HF0
  have RA := Lib.hid (RA.out.more (Nat.le_refl _))
  have HB1 := Lib.hid b2
  clear RB
  go_wp2_with fail
  go_loopw [6, 7] (fun s6 s7 wr => ∃ (i : Nat) (jz : Int) (A3 : Option Addr) (c3 : Nat), i ≤ m ∧ jz = (m : Int) - 1 - (i : Int) ∧ s6 = .slice A3 i c3 ∧ s7 = .int .i64 jz ∧ Hid (wr.ownsRow w2.heap.size 28 2 (.slice A3 i c3) i (tcs ((L.drop (m - i)).reverse))) ∧ Hid (Rd wr w2.heap.size A1 c1 2 m (tcs L)) ∧ Hid (Below w2.heap.size w2 wr)) (fun _ s7 _ => (intOf s7 + 1).toNat)
  case atStart => exact ⟨0, _, none, 0, by omega, by omega, rfl, rfl, Lib.hid (by rw [Nat.sub_zero, List.drop_of_length_le (by omega)]; exact World.ownsRow_nil _ _ _ _), RA, Lib.hid (Below.refl _ _)⟩
  case round =>
    clear RA
    obtain ⟨i, jz, A3, c3, hi, hjz, rfl, rfl, OW, RT, BW⟩ := hrel
    by_cases hin : i < m
    · obtain ⟨j, hj⟩ : ∃ j : Nat, jz = (j : Int) := ⟨m - 1 - i, by omega⟩
      subst hj
      have hjm : j < m := by omega
      have jlt : (j : Int) < (m : Int) := by omega
      have hmi : m - i = j + 1 := by omega
      have hmi2 : m - (i + 1) = j := by omega
      obtain ⟨b, o, hA, hbB, k1, k2⟩ := RT.out.pair hjm
      subst hA
      obtain ⟨x, hx⟩ : ∃ x, (pr L j).1 = x := ⟨_, rfl⟩
      obtain ⟨y, hy⟩ : ∃ y, (pr L j).2 = y := ⟨_, rfl⟩
      rw [hx] at k1
      rw [hy] at k2
      have HD := Lib.hid (show (L.drop (m - (i + 1))).reverse = (L.drop (m - i)).reverse ++ [(x, y)] by
        rw [hmi, hmi2, List.drop_eq_getElem_cons (show j < L.length by omega), List.reverse_cons]
        congr 2
        rw [← hx, ← hy]
        simp [pr, List.getD, List.getElem?_eq_getElem (show j < L.length by omega)])
      have hs := BW.out.size
      have HJ := Lib.hid hjz
      clear hx hy hmi hmi2 hjz
      go_wp2_with ((with_reducible show wpList _ _ _ ((⟨some 37, _, _, _, _, _⟩ : Oper) :: _) _ (World.alloc _ _)); go_must (refine wpList_pushes rfl (.tmp 31) (.tmp 36) 22 rfl w2.heap.size 28 _ 2 16 1 Try.underlying22 crg_info rfl (by omega) rfl (by simp [maxLen]) A3 c3 i (tcs ((L.drop (m - i)).reverse)) rfl OW.out rfl (by intro u hu; simp at hu; rcases hu with rfl | rfl <;> rfl) (by unfold maxLen; omega) (by omega) hs ?_))
      intro A4 c4 w4 O4 g4 b4
      have O5 := Lib.hid (show w4.ownsRow w2.heap.size 28 2 (.slice A4 (i + 1) c4) (i + 1) (tcs ((L.drop (m - (i + 1))).reverse)) by rw [HD.out, tcs_app]; exact O4)
      have R5 := Lib.hid (RT.out.below b4)
      have B5 := Lib.hid (BW.out.trans b4)
      clear O4 g4 b4 OW RT BW HD k1 k2
      go_wp2_with fail
      go_roundw
      case rel => exact ⟨i + 1, _, A4, c4, by omega, by have := HJ.out; omega, rfl, rfl, O5, R5, B5⟩
      case measure => simp [intOf]
    · obtain rfl : i = m := by omega
      have hneg : ¬ 0 ≤ jz := by omega
      have ho := OW.out
      rw [Nat.sub_self, List.drop_zero] at ho
      have RA := Lib.hid RT.out.tight
      have RV := Lib.hid (Rd.of_own ho)
      have BT := Lib.hid (BT.out.trans (BW.out.mono BT.out.size))
      clear OW RT BW ho
      go_wp2_with fail
      refine (cBest_c wr A1 c1 i L RA.out.tight (by omega) HF.out).mono ?_
      rintro e v11 ⟨lo, hi, k, rfl, bv11, hk, hB⟩
      unfold rg
      have HB := Lib.hid hB
      clear hB
      have av11 := (Below.refl v11.heap.size v11).alloc (Nat.le_refl _) (.cells #[.int .i64 lo, .int .i64 hi] 28)
      have bbv11 := bv11.trans (av11.mono bv11.size)
      have RA := Lib.hid (RA.out.past bbv11)
      have RV := Lib.hid (RV.out.past bbv11)
      have BT := Lib.hid (BT.out.trans (bbv11.mono BT.out.size))
      have K11 := Lib.hid (Blk.new v11 #[.int .i64 lo, .int .i64 hi] 28)
      go_wp2_with fail
      clear bbv11 av11 bv11
      generalize v11.alloc (.cells #[.int .i64 lo, .int .i64 hi] 28) = u11 at *
      generalize v11.heap.size = g11 at *
      refine (cBest_c u11 A3 c3 i L.reverse RV.out.tight (by omega) HF.out.rev).mono ?_
      rintro e v12 ⟨lo2, hi2, k2, rfl, bv12, hk2, hB2⟩
      unfold rg
      obtain ⟨rfl, rfl, rfl⟩ := PCross.IsBest.uniq (fun t => (PCross.cnt_rev L t).symm) HB.out hB2
      have av12 := (Below.refl v12.heap.size v12).alloc (Nat.le_refl _) (.cells #[.int .i64 lo, .int .i64 hi] 28)
      have bbv12 := bv12.trans (av12.mono bv12.size)
      have RA := Lib.hid (RA.out.past bbv12)
      have RV := Lib.hid (RV.out.past bbv12)
      have K11 := Lib.hid (K11.out.past bbv12)
      have BT := Lib.hid (BT.out.trans (bbv12.mono BT.out.size))
      have K12 := Lib.hid (Blk.new v12 #[.int .i64 lo, .int .i64 hi] 28)
      go_wp2_with fail
      clear bbv12 av12 bv12
      generalize v12.alloc (.cells #[.int .i64 lo, .int .i64 hi] 28) = u12 at *
      generalize v12.heap.size = g12 at *
      refine (cMost_c u12 A1 c1 i L RA.out.tight (by omega) a0).mono ?_
      rintro e v13 ⟨ml, mh, ok, rfl, bv13, hM⟩
      unfold rg
      have HM := Lib.hid hM
      clear hM
      have av13 := (Below.refl v13.heap.size v13).alloc (Nat.le_refl _) (.cells #[.int .i64 ml, .int .i64 mh] 28)
      have bbv13 := bv13.trans (av13.mono bv13.size)
      have RA := Lib.hid (RA.out.past bbv13)
      have RV := Lib.hid (RV.out.past bbv13)
      have K11 := Lib.hid (K11.out.past bbv13)
      have K12 := Lib.hid (K12.out.past bbv13)
      have BT := Lib.hid (BT.out.trans (bbv13.mono BT.out.size))
      have K13 := Lib.hid (Blk.new v13 #[.int .i64 ml, .int .i64 mh] 28)
      go_wp2_with fail
      clear bbv13 av13 bv13
      generalize v13.alloc (.cells #[.int .i64 ml, .int .i64 mh] 28) = u13 at *
      generalize v13.heap.size = g13 at *
      refine (cMost_c u13 A3 c3 i L.reverse RV.out.tight (by omega) a0).mono ?_
      rintro e v14 ⟨ml2, mh2, ok2, rfl, bv14, hM2⟩
      unfold rg
      obtain ⟨rfl, rfl, rfl⟩ := PCross.IsMost.uniq (fun t => (PCross.cnt_rev L t).symm) HM.out hM2
      have RA := Lib.hid (RA.out.past bv14)
      have RV := Lib.hid (RV.out.past bv14)
      have K11 := Lib.hid (K11.out.past bv14)
      have K12 := Lib.hid (K12.out.past bv14)
      have K13 := Lib.hid (K13.out.past bv14)
      have BT := Lib.hid (BT.out.trans (bv14.mono BT.out.size))
      clear bv14
      have c110 := K11.out.cell (i := 0) rfl
      have c111 := K11.out.cell (i := 1) rfl
      have l11 := K11.out.lt
      have c120 := K12.out.cell (i := 0) rfl
      have c121 := K12.out.cell (i := 1) rfl
      have l12 := K12.out.lt
      have c130 := K13.out.cell (i := 0) rfl
      have c131 := K13.out.cell (i := 1) rfl
      have l13 := K13.out.lt
      have BT := Lib.hid (BT.out.alloc BT.out.size (.cells #[.int .i64 ml, .int .i64 mh] 28))
      go_wp2_with fail
      go_ret
      exact ⟨by simp, BT.out⟩
end Go.Proofs.Ytapfdceopbkcgaa
