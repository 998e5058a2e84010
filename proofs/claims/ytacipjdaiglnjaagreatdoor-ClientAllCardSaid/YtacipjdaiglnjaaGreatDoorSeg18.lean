/- Contract of Best. -/
import Derived.Test.YtacipjdaiglnjaaGreatDoorSeg6
import Derived.Test.YtacipjdaiglnjaaGreatDoorSeg17
import Derived.Deep.CutRange
import Derived.Lib.MinMax
import Derived.Test.YtacipjdaiglnjaaGreatDoorSeg4
import Derived.Test.YtacipjdaiglnjaaGreatDoorSeg1
import Derived.Test.YtacipjdaiglnjaaGreatDoorProg
import Derived.Test.YtacipjdaiglnjaaGreatDoorSeg13
import Derived.Deep.CutBlock
import Derived.Deep.LoopGhost
import Derived.BigRegion
import Derived.Test.YtacipjdaiglnjaaGreatDoorSeg12
import Derived.Test.YtacipjdaiglnjaaGreatDoorSeg9
import Derived.OwnWalk
import Derived.Test.YtacipjdaiglnjaaGreatDoorSeg10
import Derived.Test.YtacipjdaiglnjaaGreatDoorSeg7
import Derived.ArgAppend
import Derived.Test.YtacipjdaiglnjaaGreatDoorSeg8
namespace Go.Proofs.YtacipjdaiglnjaaGreatDoor
open Go.RowKit PVote

/-- What Best leaves: its answer, with a log of its own. -/
def BestPost (w : World) (n : Int) (S : List (Option Vt)) (e : Ending) (w' : World) : Prop :=
  ∃ A c, e = .returned (.tuple #[vv (best n S) A c, .bool (PTeam.most (tm S) n)]) ∧ Ow w' w.heap.size 93 7 A (best n S).es.length c (els (best n S).es) ∧ Below w.heap.size w w'

/-- What a round of Best keeps. -/
structure BSt (w w4 wr : World) (g4 : Nat) (l : List Vt) (i : Nat) (b : Vt) (BA : Option Addr) (BC : Nat) (m : Int) : Prop where
  run : run (l.take i) = (b, m)
  blk : Blk wr g4 160 [.int .i64 b.fr, .int .i64 b.last, .slice BA b.es.length BC, .int .i64 b.com]
  rd : Rd wr w.heap.size BA BC 7 b.es.length (els b.es)
  tch : Touch [g4] w4 wr
  bel : Below w.heap.size w wr
theorem BSt.next {w w4 wr wx : World} {g4 i : Nat} {l : List Vt} {b x b' : Vt} {BA VA BA' : Option Addr} {BC VC BC' : Nat} {m m' : Int} (h : BSt w w4 wr g4 l i b BA BC m) (hx : l[i]? = some x) (hV : Rd wr w.heap.size VA VC 7 x.es.length (els x.es))
    (hg : w.heap.size ≤ g4) (ht : Touch [g4] wr wx) (hK : Blk wx g4 160 [.int .i64 b'.fr, .int .i64 b'.last, .slice BA' b'.es.length BC', .int .i64 b'.com])
    (hb : (b' = pickB b x) ∧ (b' = x ∧ BA' = VA ∧ BC' = VC ∨ b' = b ∧ BA' = BA ∧ BC' = BC)) (hm : m' = max m x.com) : BSt w w4 wx g4 l (i + 1) b' BA' BC' m' := by
  have hbel : Below w.heap.size wr wx := ht.below (by simpa using hg) h.bel.size
  refine ⟨?_, hK, ?_, h.tch.trans ht, h.bel.trans hbel⟩
  · rw [run_take hx, h.run, hb.1, hm]; rfl
  · rcases hb.2 with ⟨rfl, rfl, rfl⟩ | ⟨rfl, rfl, rfl⟩
    · exact hV.below hbel
    · exact h.rd.below hbel

set_option maxHeartbeats 4000000 in
set_option maxRecDepth 100000 in
theorem vbest_yes (w : World) (g : Nat) (F : List Nat) (view n : Int) (S : List (Option Vt)) (h : Vs w g F view n S) (hp : Pl S) (hm : PTeam.most (tm S) n = true) :
    Calls Tryz.prog 157 #[.pointer (some ⟨g, 0, none⟩)] w (BestPost w n S) := by
  have K1 := Lib.hid (Blk.new w #[.int .i64 0, .int .i64 0, .slice none 0 0, .int .i64 0] 160)
  have B1 := Lib.hid ((Below.refl w.heap.size w).alloc (Nat.le_refl _) (.cells #[.int .i64 0, .int .i64 0, .slice none 0 0, .int .i64 0] 160))
  have H1 := Lib.hid (h.alloc (.cells #[.int .i64 0, .int .i64 0, .slice none 0 0, .int .i64 0] 160))
  have HM := Lib.hid hm
  have HE := Lib.hid (show best n S = cutc (run (got S)) by unfold best; rw [hm]; rfl)
  have H0 := Lib.hid h
  have HP := Lib.hid hp
  clear h hp hm
  go_enter Tryz.func157, Tryz.ntmps157
  go_wp2_with fail
  generalize (w.alloc (.cells #[.int .i64 0, .int .i64 0, .slice none 0 0, .int .i64 0] 160)) = w1 at *
  refine (venough_c w1 g F view n S H1.out).mono ?_
  rw [HM.out]
  rintro e w2 ⟨rfl, b2⟩
  have K2 := Lib.hid (K1.out.past b2)
  have B2 := Lib.hid (B1.out.trans (b2.mono B1.out.size))
  have H2 := Lib.hid (H1.out.past b2)
  clear b2 K1 B1 H1
  have K4 := Lib.hid (Blk.new w2 #[.int .i64 0, .int .i64 0, .slice none 0 0, .int .i64 0] 160)
  have qt : ((w2.alloc (.cells #[.int .i64 0, .int .i64 0, .slice none 0 0, .int .i64 0] 160)).setRow w2.heap.size #[.int .i64 0, .int .i64 0, .slice none 0 0, .int .i64 0]).cell? ⟨g, 2, none⟩ = some (.int .i64 (tm S)) :=
    ((H2.out.alloc (.cells #[.int .i64 0, .int .i64 0, .slice none 0 0, .int .i64 0] 160)).touch (Touch.of_grown (grown_row _ w2.heap.size #[.int .i64 0, .int .i64 0, .slice none 0 0, .int .i64 0])) (fun k hk hm => by have := H2.out.hi k hm; rw [List.mem_singleton.1 hk] at this; omega)).head.2.2
  have B3 := Lib.hid ((B2.out.alloc B2.out.size (.cells #[.int .i64 0, .int .i64 0, .slice none 0 0, .int .i64 0] 160)).trans (grown_below (grown_row (w2.alloc (.cells #[.int .i64 0, .int .i64 0, .slice none 0 0, .int .i64 0] 160)) w2.heap.size #[.int .i64 0, .int .i64 0, .slice none 0 0, .int .i64 0]) B2.out.size (by have := B2.out.size; simp; omega)))
  have K2' := Lib.hid (((K2.out.alloc (.cells #[.int .i64 0, .int .i64 0, .slice none 0 0, .int .i64 0] 160)).far (grown_row (w2.alloc (.cells #[.int .i64 0, .int .i64 0, .slice none 0 0, .int .i64 0] 160)) w2.heap.size #[.int .i64 0, .int .i64 0, .slice none 0 0, .int .i64 0]) (by have := K2.out.lt; omega)))
  have K4' := Lib.hid (K4.out.row #[.int .i64 0, .int .i64 0, .slice none 0 0, .int .i64 0])
  have G4 := Lib.hid B2.out.size
  have NE24 := Lib.hid (show w.heap.size ≠ w2.heap.size by have := K2.out.lt; omega)
  have HLT := Lib.hid (tm_lt S)
  obtain ⟨t, ht⟩ : ∃ t, tm S = t := ⟨_, rfl⟩
  rw [ht] at qt HLT
  have HT := Lib.hid ht
  clear ht
  go_wp2_with ((with_reducible show wpList _ _ _ ((⟨none, Op.store 160 (.tmp 4) _, _, _, _, _⟩ : Oper) :: _) _ _); go_must (refine wpList_store_row rfl 160 (.tmp 4) (.tmp 13) rfl w2.heap.size _ rfl rfl _ _ K4.out (by kernel_rfl) (by rfl) (by kernel_rfl) ?_))
  clear K2 B2 H2 K4 qt
  generalize (w2.alloc (.cells #[.int .i64 0, .int .i64 0, .slice none 0 0, .int .i64 0] 160)).setRow w2.heap.size #[.int .i64 0, .int .i64 0, .slice none 0 0, .int .i64 0] = w3 at *
  generalize w2.heap.size = g4 at *
  refine (tList_c w3 t HLT.out).mono ?_
  rintro e w4 ⟨LA, LC, rfl, lo, b4⟩
  have B4 := Lib.hid (B3.out.trans (b4.mono B3.out.size))
  have K2 := Lib.hid (K2'.out.past b4)
  have K4 := Lib.hid (K4'.out.past b4)
  have L4 := Lib.hid (Ow.of_own lo)
  have NL := Lib.hid (L4.out.ne K4.out (by decide))
  have C7 := Lib.hid (PTeam.cnt_le t)
  have c7 := PTeam.cnt_le t
  have HCL := Lib.hid (show (got S).length = PTeam.cnt t by rw [got_len S H0.out.len, HT.out])
  have S0 := Lib.hid (show BSt w w4 w4 g4 (got S) 0 zero none 0 0 from ⟨run_nil, K4.out, Rd.nil _ _ _, Touch.refl _ _, B4.out⟩)
  clear b4 lo B3 K2' K4' HLT K4
  go_wp2_with fail
  go_loopw [5, 7, 8, 20] (fun s5 _ _ s20 wr => ∃ (i : Nat) (b : Vt) (BA : Option Addr) (BC : Nat) (m : Int), s20 = .int .i64 i ∧ s5 = .int .i64 m ∧ i ≤ PTeam.cnt t ∧ Hid (BSt w w4 wr g4 (got S) i b BA BC m)) (fun _ _ _ s20 _ => PTeam.cnt t - (intOf s20).toNat)
  case atStart => exact ⟨0, zero, none, 0, 0, rfl, rfl, by omega, S0⟩
  case round =>
    clear S0
    obtain ⟨i, b, BA, BC, m, rfl, rfl, hi, ST⟩ := hrel
    by_cases hin : i < PTeam.cnt t
    · have LR := Lib.hid (show Rd wr wr.heap.size LA LC 1 (PTeam.cnt t) (is (PTeam.lst t)) from (L4.out.touch ST.out.tch (fun s hs => by rw [List.mem_singleton.1 hs]; exact NL.out)).rd)
      have hll : i < (PTeam.lst t).length := by rw [PTeam.lst_length]; exact hin
      obtain ⟨lb, lo, rfl, -, kl⟩ := LR.out.at_ hin
      rw [is_getD _ _ hll] at kl
      have hgi : (PTeam.lst (tm S))[i]? = some ((PTeam.lst t).getD i 0) := by rw [HT.out, List.getD_eq_getElem?_getD, List.getElem?_eq_getElem hll]; rfl
      obtain ⟨k, hk, ek, x, hSk, htab, hgot⟩ := got_at S H0.out.len hgi
      rw [ek] at kl
      obtain ⟨VA, VC, hra, hrd⟩ := H0.out.at_ htab
      have HRA := Lib.hid (rangeAt_below hra ST.out.bel H0.out.lt)
      have HRD0 := Lib.hid (hrd.below ST.out.bel)
      have HGOT := Lib.hid hgot
      have ek7 : (k : Int) < 7 := by omega
      clear LR hll hgi ek hSk htab hra hrd hgot
      have K8 := Lib.hid (Blk.new wr #[.int .i64 0, .int .i64 0, .slice none 0 0, .int .i64 0] 160)
      go_upto_region 8 with (first | ((with_reducible show wpList _ _ _ ((⟨some 30, Op.load _ _, _, _, _, _⟩ : Oper) :: _) _ _); go_must (refine wpList_load_mid rfl 160 (.tmp 29) rfl g (3 + k * 4) rfl ([.int .i64 x.fr, .int .i64 x.last, .slice VA x.es.length VC, .int .i64 x.com]) _ HRA.out Tryz.underlying160 rfl (by kernel_rfl) ?_)) | ((with_reducible show wpList _ _ _ ((⟨none, Op.store 160 (.tmp 8) _, _, _, _, _⟩ : Oper) :: _) _ _); go_must (refine wpList_store_row rfl 160 (.tmp 8) (.tmp 30) rfl wr.heap.size _ rfl rfl _ _ K8.out (by kernel_rfl) (by rfl) (by kernel_rfl) ?_)))
      have LT4 := Lib.hid ST.out.blk.lt
      have b5 := ((Below.refl wr.heap.size wr).alloc (Nat.le_refl _) (.cells #[.int .i64 0, .int .i64 0, .slice none 0 0, .int .i64 0] 160)).trans (grown_below (grown_row (wr.alloc (.cells #[.int .i64 0, .int .i64 0, .slice none 0 0, .int .i64 0] 160)) wr.heap.size #[.int .i64 x.fr, .int .i64 x.last, .slice VA x.es.length VC, .int .i64 x.com]) (Nat.le_refl _) (by simp))
      have T5 := Lib.hid (show Touch [g4] wr _ from Touch.of_below b5)
      have K8 := Lib.hid (show Blk _ wr.heap.size _ [.int .i64 x.fr, .int .i64 x.last, .slice VA x.es.length VC, .int .i64 x.com] from K8.out.row #[.int .i64 x.fr, .int .i64 x.last, .slice VA x.es.length VC, .int .i64 x.com])
      have KB := Lib.hid (ST.out.blk.past b5)
      have NE8 := Lib.hid (show wr.heap.size ≠ g4 by have := LT4.out; omega)
      clear b5 kl HRA LT4
      generalize (wr.alloc (.cells #[.int .i64 0, .int .i64 0, .slice none 0 0, .int .i64 0] 160)).setRow wr.heap.size #[.int .i64 x.fr, .int .i64 x.last, .slice VA x.es.length VC, .int .i64 x.com] = w5 at *
      generalize wr.heap.size = g8 at *
      have k0 := KB.out.cell (i := 0) rfl
      by_cases h0 : b.fr = 0
      · have d0 : (b.fr == 0) = true := by rw [h0]; rfl
        have HPK := Lib.hid (show x = pickB b x by unfold pickB; rw [if_pos (Or.inl h0)])
        have KS := Lib.hid (KB.out.row #[.int .i64 x.fr, .int .i64 x.last, .slice VA x.es.length VC, .int .i64 x.com])
        have TS := Lib.hid (T5.out.trans (Touch.of_grown (grown_row w5 g4 #[.int .i64 x.fr, .int .i64 x.last, .slice VA x.es.length VC, .int .i64 x.com])))
        have p3 := ((K8.out.far (grown_row w5 g4 #[.int .i64 x.fr, .int .i64 x.last, .slice VA x.es.length VC, .int .i64 x.com]) NE8.out)).cell (i := 3) rfl
        clear h0
        go_wp2_with (first | ((with_reducible show wpList _ _ _ ((⟨some 39, Op.load _ _, _, _, _, _⟩ : Oper) :: _) _ _); go_must (refine wpList_load_row rfl 160 (.tmp 8) rfl g8 rfl 160 #[.int .i64 x.fr, .int .i64 x.last, .slice VA x.es.length VC, .int .i64 x.com] (0, 0) _ K8.out Tryz.underlying160 rfl (by kernel_rfl) ?_)) | ((with_reducible show wpList _ _ _ ((⟨none, Op.store 160 (.tmp 4) _, _, _, _, _⟩ : Oper) :: _) _ _); go_must (refine wpList_store_row rfl 160 (.tmp 4) (.tmp 39) rfl g4 _ rfl rfl _ _ KB.out (by kernel_rfl) (by rfl) (by kernel_rfl) ?_)))
        go_roundw
        case rel => exact ⟨i + 1, x, VA, VC, max m x.com, by go_num, rfl, by omega, Lib.hid (ST.out.next HGOT.out HRD0.out G4.out TS.out KS.out ⟨HPK.out, .inl ⟨rfl, rfl, rfl⟩⟩ rfl)⟩
        case measure => simp [intOf]; omega
      · have d0 : (b.fr == 0) = false := by simpa using h0
        have H00 := Lib.hid h0
        clear h0
        have HBT := Lib.hid (isBetter_c w5 x b VA BA VC BC)
        obtain ⟨bt, hbt⟩ : ∃ bt, better x b = bt := ⟨_, rfl⟩
        rw [hbt] at HBT
        go_wp2_with (first | ((with_reducible show wpList _ _ _ ((⟨some 35, Op.load _ _, _, _, _, _⟩ : Oper) :: _) _ _); go_must (refine wpList_unguard rfl ?_; refine wpList_load_row rfl 160 (.tmp 8) rfl g8 rfl 160 #[.int .i64 x.fr, .int .i64 x.last, .slice VA x.es.length VC, .int .i64 x.com] (0, 0) _ K8.out Tryz.underlying160 rfl (by kernel_rfl) ?_)) | ((with_reducible show wpList _ _ _ ((⟨some 36, Op.load _ _, _, _, _, _⟩ : Oper) :: _) _ _); go_must (refine wpList_unguard rfl ?_; refine wpList_load_row rfl 160 (.tmp 4) rfl g4 rfl 160 #[.int .i64 b.fr, .int .i64 b.last, .slice BA b.es.length BC, .int .i64 b.com] (0, 0) _ KB.out Tryz.underlying160 rfl (by kernel_rfl) ?_)))
        refine HBT.out.mono ?_
        rintro e w6 ⟨rfl, b6⟩
        have K8 := Lib.hid (K8.out.past b6)
        have KB := Lib.hid (KB.out.past b6)
        have T6 := Lib.hid (T5.out.trans (Touch.of_below (S := [g4]) b6))
        clear b6 T5 HBT k0
        cases bt with
        | true =>
          have HPK := Lib.hid (show x = pickB b x by unfold pickB; rw [if_pos (Or.inr hbt)])
          have KS := Lib.hid (KB.out.row #[.int .i64 x.fr, .int .i64 x.last, .slice VA x.es.length VC, .int .i64 x.com])
          have TS := Lib.hid (T6.out.trans (Touch.of_grown (grown_row w6 g4 #[.int .i64 x.fr, .int .i64 x.last, .slice VA x.es.length VC, .int .i64 x.com])))
          have p3 := ((K8.out.far (grown_row w6 g4 #[.int .i64 x.fr, .int .i64 x.last, .slice VA x.es.length VC, .int .i64 x.com]) NE8.out)).cell (i := 3) rfl
          clear hbt
          go_wp2_with (first | ((with_reducible show wpList _ _ _ ((⟨some 39, Op.load _ _, _, _, _, _⟩ : Oper) :: _) _ _); go_must (refine wpList_load_row rfl 160 (.tmp 8) rfl g8 rfl 160 #[.int .i64 x.fr, .int .i64 x.last, .slice VA x.es.length VC, .int .i64 x.com] (0, 0) _ K8.out Tryz.underlying160 rfl (by kernel_rfl) ?_)) | ((with_reducible show wpList _ _ _ ((⟨none, Op.store 160 (.tmp 4) _, _, _, _, _⟩ : Oper) :: _) _ _); go_must (refine wpList_store_row rfl 160 (.tmp 4) (.tmp 39) rfl g4 _ rfl rfl _ _ KB.out (by kernel_rfl) (by rfl) (by kernel_rfl) ?_)))
          go_roundw
          case rel => exact ⟨i + 1, x, VA, VC, max m x.com, by go_num, rfl, by omega, Lib.hid (ST.out.next HGOT.out HRD0.out G4.out TS.out KS.out ⟨HPK.out, .inl ⟨rfl, rfl, rfl⟩⟩ rfl)⟩
          case measure => simp [intOf]; omega
        | false =>
          have HPK := Lib.hid (show b = pickB b x by unfold pickB; rw [if_neg (by rw [hbt]; have := H00.out; simp [this])])
          have p3 := K8.out.cell (i := 3) rfl
          clear hbt
          go_wp2_with fail
          go_roundw
          case rel => exact ⟨i + 1, b, BA, BC, max m x.com, by go_num, rfl, by omega, Lib.hid (ST.out.next HGOT.out HRD0.out G4.out T6.out KB.out ⟨HPK.out, .inr ⟨rfl, rfl, rfl⟩⟩ rfl)⟩
          case measure => simp [intOf]; omega
    · obtain rfl : i = PTeam.cnt t := by omega
      have HRUN := Lib.hid (show run (got S) = (b, m) by have := ST.out.run; rwa [← HCL.out, List.take_length] at this)
      have HLE := Lib.hid (show b.es.length ≤ 60 by
        have := run_le (got S) (fun x hx => by obtain ⟨k, hk⟩ := got_mem hx; exact (HP.out k x hk).2)
        rw [HRUN.out] at this; exact this)
      have KB := Lib.hid ST.out.blk
      have KR := Lib.hid (K2.out.touch ST.out.tch (by simpa using NE24.out))
      have q2 := KB.out.cell (i := 2) rfl
      go_wp2_with fail
      refine (cloneE_c wr w.heap.size BA BC b.es.length b.es ST.out.rd (by have := HLE.out; omega)).mono ?_
      rintro e w6 ⟨CA, CC, rfl, co, b6⟩
      have B6 := Lib.hid (ST.out.bel.trans (b6.mono ST.out.bel.size))
      have CO := Lib.hid (Ow.down (Ow.of_own co) ST.out.bel.size)
      have KB := Lib.hid (KB.out.past b6)
      have KR := Lib.hid (KR.out.past b6)
      clear b6 co q2
      have c2 := KB.out.cell (i := 2) rfl
      have c3 := KB.out.cell (i := 3) rfl
      have f2 := KB.out.free 2
      have f3 := KB.out.free 3
      have KE := Lib.hid ((KB.out.set 2 (.slice CA b.es.length CC)).set 3 (.int .i64 (min m b.es.length)))
      have GE := grown_set w6 g4 2 (.slice CA b.es.length CC)
      have GF := grown_set (w6.setCell ⟨g4, 2, none⟩ (.slice CA b.es.length CC)) g4 3 (.int .i64 (min m b.es.length))
      have KF := Lib.hid ((KR.out.far GE NE24.out).far GF NE24.out)
      have TE := Lib.hid ((Touch.of_grown GE).trans (Touch.of_grown GF))
      clear GE GF
      go_wp2_with (first | ((with_reducible show wpList _ _ _ ((⟨some 55, Op.load _ _, _, _, _, _⟩ : Oper) :: _) _ _); go_must (refine wpList_load_row rfl 160 (.tmp 4) rfl g4 rfl 160 #[.int .i64 b.fr, .int .i64 b.last, .slice CA b.es.length CC, .int .i64 (min m b.es.length)] (0, 0) _ KE.out Tryz.underlying160 rfl (by kernel_rfl) ?_)) | ((with_reducible show wpList _ _ _ ((⟨none, Op.store 160 (.tmp 2) _, _, _, _, _⟩ : Oper) :: _) _ _); go_must (refine wpList_store_row rfl 160 (.tmp 2) (.tmp 55) rfl w.heap.size _ rfl rfl _ _ KF.out (by kernel_rfl) (by rfl) (by kernel_rfl) ?_)))
      have KZ := KF.out.row #[.int .i64 b.fr, .int .i64 b.last, .slice CA b.es.length CC, .int .i64 (min m b.es.length)]
      have GZ := grown_row ((w6.setCell ⟨g4, 2, none⟩ (.slice CA b.es.length CC)).setCell ⟨g4, 3, none⟩ (.int .i64 (min m b.es.length))) w.heap.size #[.int .i64 b.fr, .int .i64 b.last, .slice CA b.es.length CC, .int .i64 (min m b.es.length)]
      have TZ := TE.out.wide (S' := [g4, w.heap.size]) (by simp)
      have TY := TZ.trans ((Touch.of_grown GZ).wide (S' := [g4, w.heap.size]) (by simp))
      have CZ := CO.out.touch TY (fun s hs => by
        simp only [List.mem_cons, List.not_mem_nil, or_false] at hs
        rcases hs with rfl | rfl
        · exact CO.out.ne KB.out (by decide)
        · exact CO.out.ne KR.out (by decide))
      have BZ := B6.out.trans (TY.below (B := w.heap.size) (by have := G4.out; simpa using this) B6.out.size)
      have ebest : best n S = ⟨b.fr, b.last, b.es, min m b.es.length⟩ := by rw [HE.out, HRUN.out]; rfl
      exact bodyPost_ret (v := .tuple #[vv (best n S) CA CC, .bool true]) (by rw [ebest]; exact results_rowB rfl _ _ w.heap.size _ _ _ _ rfl rfl KZ Tryz.underlying160 rfl (by kernel_rfl)) rfl ⟨CA, CC, by rw [HM.out], by rw [ebest]; exact CZ, BZ⟩
end Go.Proofs.YtacipjdaiglnjaaGreatDoor

/- A process tells its quorum that it has its log (ackOwn), which is empty; what it holds when it installed a view. -/
namespace Go.Proofs.YtacipjdaiglnjaaGreatDoor
open Go.RowKit PNode

set_option maxHeartbeats 4000000 in
theorem ackOwn0_c {w : World} {x d : Nat} {p : Np} {a : Na} {qg : Nat} {t : Te} {A : Option Addr} {c : Nat} (B : Blk w x 79 (ncs d { p with te := some t } a)) (T : Blk w a.tg 173 (tecs qg t A c)) (Q : Qs w qg p.n p.id t.m t.H t.P t.ql) (K : Qk p.n p.id t.m t.H t.P t.ql) (L : Lg w a.lg a.FL []) :
    Calls Tryz.prog 161 #[.pointer (some ⟨x, 0, none⟩)] w fun e w' => e = .returned (.tuple #[]) ∧ Qs w' qg p.n p.id t.m (PQuo.upd t.H p.id 0) (if (0 : Int) ≤ t.ql then PQuo.upd t.P p.id 0 else t.P) t.ql ∧ Touch [qg] w w' := by
  have hx : x ∉ [qg] := by rw [List.mem_singleton]; exact Q.ne B (by decide)
  have hx2 : a.tg ∉ [qg] := by rw [List.mem_singleton]; exact Q.ne T (by decide)
  have HX := Lib.hid hx
  have HX2 := Lib.hid hx2
  have HB := Lib.hid B
  have HT := Lib.hid T
  have HQ := Lib.hid Q
  have HK := Lib.hid K
  have HL := Lib.hid L
  clear B T Q K L hx hx2
  go_enter Tryz.func161, Tryz.ntmps161
  go_wp2_with fail
-- REGION (*curfew/node.Node).ackOwn 0 nackown 2
  refine Hs.begin ([qg]) ?_
  refine Hs.take (v := .pointer (some ⟨x, 0, none⟩)) 0 2 rfl ?_ (fun _ _ => rfl)
  refine Hs.take (v := .pointer (some ⟨x, 0, none⟩)) 1 3 rfl ?_ (fun w' hw' => by go_simp; first | done | rfl | (simp; omega))
  refine Hs.take (v := .pointer (some ⟨x, 13, none⟩)) 2 4 rfl ?_ (fun w' hw' => by go_simp; first | done | rfl | (simp; omega))
  refine Hs.take (v := .pointer (some ⟨a.tg, 0, none⟩)) 3 5 rfl ?_ (fun w' hw' => by exact ldTerm (Blk.cell (i := 13) (Blk.touch (show Blk w.drew x 79 (ncs d { p with te := some t } a) from HB.out) hw' HX.out) rfl) rfl)
  refine Hs.take (v := .pointer (some ⟨a.tg, 0, none⟩)) 4 6 rfl ?_ (fun w' hw' => by go_simp; first | done | rfl | (simp; omega))
  refine Hs.take (v := .pointer (some ⟨a.tg, 0, none⟩)) 5 7 rfl ?_ (fun w' hw' => by go_simp; first | done | rfl | (simp; omega))
  refine Hs.take (v := .pointer (some ⟨qg, 0, none⟩)) 6 8 rfl ?_ (fun w' hw' => by exact ldQuo (Blk.cell (i := 0) (Blk.touch (show Blk w.drew a.tg 173 (tecs qg t A c) from HT.out) hw' HX2.out) rfl) rfl)
  refine Hs.take (v := .pointer (some ⟨x, 0, none⟩)) 7 9 rfl ?_ (fun _ _ => rfl)
  refine Hs.take (v := .pointer (some ⟨x, 0, none⟩)) 8 10 rfl ?_ (fun w' hw' => by go_simp; first | done | rfl | (simp; omega))
  refine Hs.take (v := .pointer (some ⟨x, 0, none⟩)) 9 11 rfl ?_ (fun w' hw' => by go_simp; first | done | rfl | (simp; omega))
  refine Hs.take (v := .int .i64 p.id) 10 12 rfl ?_ (fun w' hw' => by exact ldInt (Blk.cell (i := 0) (Blk.touch (show Blk w.drew x 79 (ncs d { p with te := some t } a) from HB.out) hw' HX.out) rfl) rfl)
  refine Hs.take (v := .pointer (some ⟨x, 0, none⟩)) 11 13 rfl ?_ (fun _ _ => rfl)
  refine Hs.take (v := .pointer (some ⟨x, 0, none⟩)) 12 14 rfl ?_ (fun w' hw' => by go_simp; first | done | rfl | (simp; omega))
  refine Hs.take (v := .pointer (some ⟨x, 9, none⟩)) 13 15 rfl ?_ (fun w' hw' => by go_simp; first | done | rfl | (simp; omega))
  refine Hs.take (v := .pointer (some ⟨a.lg, 0, none⟩)) 14 16 rfl ?_ (fun w' hw' => by exact ldLog (Blk.cell (i := 9) (Blk.touch (show Blk w.drew x 79 (ncs d { p with te := some t } a) from HB.out) hw' HX.out) rfl) rfl)
  refine Hs.call (f := 144) (args := #[.pointer (some ⟨a.lg, 0, none⟩)]) 15 17 rfl ?_ (run_callf Tryz.func144 (by kernel_rfl) (by kernel_rfl) (by simp only [List.map_toArray, List.map_cons, List.map_nil]; rfl))
  refine (Len_c w.drew a.lg a.FL [] HL.out.drew).mono ?_
  rintro e w2 ⟨rfl, rfl⟩
  refine Hs.back (Touch.refl _ _) ?_
  refine Hs.call (f := 152) (args := #[.pointer (some ⟨qg, 0, none⟩), .int .i64 p.id, .int .i64 0, .int .i64 0]) 16 18 rfl ?_ (run_callf Tryz.func152 (by kernel_rfl) (by kernel_rfl) (by simp only [List.map_toArray, List.map_cons, List.map_nil]; rfl))
  refine (qack_yes w.drew qg p.n p.id t.m t.H t.P t.ql HQ.out HK.out p.id 0 0 HK.out.me (by omega) (by omega)).mono ?_
  rintro e w3 ⟨rfl, Q3, T3⟩
  have Q3' := Lib.hid Q3
  have T3' := Lib.hid T3
  clear Q3
  refine Hs.back T3 ?_
  refine Hs.done ?_
-- END
  go_end0
  exact ⟨rfl, Q3'.out, (Touch.refl _ _).drew.trans T3'.out⟩
end Go.Proofs.YtacipjdaiglnjaaGreatDoor

/- A region that draws its order, walked in one order, where it writes one cell of block x, and blocks of the list S: all else stays (Hs's twin). No program is named here. -/
namespace Go.Proofs.YtacipjdaiglnjaaGreatDoor
open Go.RowKit

/-- Of w's blocks those of S alone may hold other cells, and block x at place j. -/
structure Kp (S : List Nat) (x j : Nat) (w w' : World) : Prop where
  touch : Touch (x :: S) w w'
  cell : x ∉ S → ∀ T xs, Blk w x T xs → ∃ u, Blk w' x T (xs.set j u)
theorem Kp.refl (S : List Nat) (x j : Nat) (w : World) : Kp S x j w w := ⟨.refl _ _, fun _ T xs h => by
  by_cases hj : j < xs.length
  · exact ⟨xs[j], by rw [List.set_getElem_self]; exact h⟩
  · exact ⟨undef, by rw [List.set_eq_of_length_le (by omega)]; exact h⟩⟩
theorem Kp.trans {S : List Nat} {x j : Nat} {a b c : World} (h : Kp S x j a b) (k : Kp S x j b c) : Kp S x j a c := ⟨h.touch.trans k.touch, fun hx T xs hB => by
  obtain ⟨u, h1⟩ := h.cell hx T xs hB
  obtain ⟨v, h2⟩ := k.cell hx T _ h1
  exact ⟨v, by rw [List.set_set] at h2; exact h2⟩⟩
theorem Kp.of_touch {S : List Nat} {x j : Nat} {a b : World} (h : Touch S a b) : Kp S x j a b := ⟨h.wide (fun k hk => List.mem_cons_of_mem _ hk), fun hx T xs hB => by
  have h2 := hB.touch h hx
  obtain ⟨u, h3⟩ := (Kp.refl S x j b).cell hx T xs h2
  exact ⟨u, h3⟩⟩
theorem Kp.set {S : List Nat} {x j : Nat} (w : World) (v : Value) : Kp S x j w (w.setCell ⟨x, j, none⟩ v) := ⟨(Touch.refl _ _).cell (by simp) _ _, fun _ T xs hB => ⟨v, hB.set j v⟩⟩
/-- A cell of x but the one at j. -/
theorem Kp.get {S : List Nat} {x j i : Nat} {w w' : World} {T : TypeId} {xs : List Value} {v : Value} (h : Kp S x j w w') (hx : x ∉ S) (hB : Blk w x T xs) (hij : j ≠ i) (hv : xs[i]? = some v) : w'.cell? ⟨x, i, none⟩ = some v := by
  obtain ⟨u, h1⟩ := h.cell hx T xs hB
  exact h1.cell (by rw [List.getElem?_set_ne hij]; exact hv)

section
variable {P : Program} {ops : Array Oper} {Q : Exit → Act → World → Prop} {S : List Nat} {x j : Nat}

/-- Whatever order is drawn from here on; of w's blocks those of S alone may turn. -/
def Hk (P : Program) (ops : Array Oper) (Q : Exit → Act → World → Prop) (S : List Nat) (x j : Nat) (n : Nat) (listed : Array Bool) (a : Act) (w : World) : Prop :=
  wpAnyH P .any ops (NoPanic Q) (Kp S x j w) n listed a w
theorem Hk.on {n : Nat} {listed : Array Bool} {a : Act} {w w' : World} (hb : Kp S x j w w') (h : Hk P ops Q S x j n listed a w') : wpAnyH P .any ops (NoPanic Q) (Kp S x j w) n listed a w' :=
  wpAnyH_less (fun _ h' => hb.trans h') _ _ _ _ h
theorem Hk.begin {id : Nat} {a : Act} {w : World} (S : List Nat) (x j : Nat) (h : Hk P ops Q S x j ops.size (Array.replicate ops.size false) a w.drew) (hm : P.follows .mixedOrders = true := by kernel_rfl) : (Code.region id ops true).wp P Q a w :=
  wp_region_noPanic (wp_region_held (S := Kp S x j w.drew) hm h)
/-- It may be taken first. -/
theorem Hk.take {n : Nat} {listed : Array Bool} {a a' : Act} {w : World} {o : Oper} {v : Value} (i d : Nat)
    (hi : ops[i]? = some o) (h : Hk P ops Q S x j n (listed.setIfInBounds i true) a' w) (hy : ∀ w', Kp S x j w w' → (execOp a.eval o).run P w' = .ok (.value v) w')
    (hf : firstB ops listed i = true := by kernel_rfl) (hw : Region.wanted o (yielded ops a.tmps) = true := by rfl) (hd : o.dst = some d := by rfl)
    (ha : a.put (some d) v = a' := by simp only [Act.put, List.setIfInBounds_toArray, List.set_cons_succ, List.set_cons_zero]; rfl) : Hk P ops Q S x j (n + 1) listed a w := by
  subst ha
  rw [← hd] at h
  obtain ⟨h1, h2, h3⟩ := firstB_parts hf
  exact wpAnyH_take hi h1 h2 h3 (fun _ _ _ h => h) (.inl ⟨hw, hy⟩) (Kp.refl _ _ _ _) h
/-- Its guard shuts it out. -/
theorem Hk.pass {n : Nat} {listed : Array Bool} {a a' : Act} {w : World} {o : Oper} (i d : Nat) (hi : ops[i]? = some o) (h : Hk P ops Q S x j n (listed.setIfInBounds i true) a' w)
    (hf : firstB ops listed i = true := by kernel_rfl) (hw : Region.wanted o (yielded ops a.tmps) = false := by rfl) (hd : o.dst = some d := by rfl)
    (ha : a.put (some d) undef = a' := by simp only [Act.put, List.setIfInBounds_toArray, List.set_cons_succ, List.set_cons_zero]; rfl) : Hk P ops Q S x j (n + 1) listed a w := by
  subst ha
  rw [← hd] at h
  obtain ⟨h1, h2, h3⟩ := firstB_parts hf
  exact wpAnyH_take hi h1 h2 h3 (fun _ _ _ h => h) (.inr ⟨hw, rfl⟩) (Kp.refl _ _ _ _) h
/-- What is asked where number i comes up. -/
def Pkk (P : Program) (ops : Array Oper) (Q : Exit → Act → World → Prop) (S : List Nat) (x j : Nat) (n : Nat) (listed : Array Bool) (a : Act) (w : World) (i : Nat) : Prop :=
  wpOp P ops (NoPanic Q) i (fun a' w' => Kp S x j w w' ∧ wpAnyH P .any ops (NoPanic Q) (Kp S x j w) n (listed.setIfInBounds i true) a' w') a w
theorem Hk.one {n : Nat} {listed : Array Bool} {a : Act} {w : World} (i : Nat) (h1 : Pkk P ops Q S x j n listed a w i) (hr : Region.ready .any ops listed = [i] := by kernel_rfl) : Hk P ops Q S x j (n + 1) listed a w := by
  refine wpAnyH_all hr (by simp) fun z hz => ?_
  obtain rfl : z = i := by simpa using hz
  exact h1
theorem Hk.two {n : Nat} {listed : Array Bool} {a : Act} {w : World} (i k : Nat) (h1 : Pkk P ops Q S x j n listed a w i) (h2 : Pkk P ops Q S x j n listed a w k) (hr : Region.ready .any ops listed = [i, k] := by kernel_rfl) : Hk P ops Q S x j (n + 1) listed a w := by
  refine wpAnyH_all hr (by simp) fun z hz => ?_
  simp only [List.mem_cons, List.not_mem_nil, or_false] at hz
  rcases hz with rfl | rfl
  · exact h1
  · exact h2
theorem Hk.pick {n : Nat} {listed : Array Bool} {a : Act} {w : World} {o : Oper} (i : Nat) (d : Option Nat) (hi : ops[i]? = some o)
    (h : wpList P ops (Nx Q fun a' w' => Kp S x j w w' ∧ Hk P ops Q S x j n (listed.setIfInBounds i true) a' w') [{ o with guard := none, dst := d }] a w)
    (hw : Region.wanted o (yielded ops a.tmps) = true := by rfl) (hd : o.dst = d := by rfl) : Pkk P ops Q S x j n listed a w i := by
  subst hd
  unfold Pkk wpOp
  simp only [hi, hw, if_true]
  have he : execOp a.eval { o with guard := none } = execOp a.eval o := rfl
  unfold wpList at h
  have hw' : Region.wanted { o with guard := none } (yielded ops a.tmps) = true := rfl
  rw [if_pos hw'] at h
  rcases h with h | ⟨h, q⟩
  · refine .inl ?_
    unfold Oper.wp at *
    rw [he] at h
    generalize (execOp a.eval o).run P w = r at *
    have step : ∀ a' w', wpList P ops (Nx Q fun a' w' => Kp S x j w w' ∧ Hk P ops Q S x j n (listed.setIfInBounds i true) a' w') [] a' w' → Kp S x j w w' ∧ wpAnyH P .any ops (NoPanic Q) (Kp S x j w) n (listed.setIfInBounds i true) a' w' := by
      rintro a' w' ⟨hb, hh⟩
      exact ⟨hb, hh.on hb⟩
    cases r with
    | ok n w' =>
      cases n <;> simp only [Oper.upon] at h ⊢ <;>
        first
          | exact step _ _ h
          | exact Calls.mono h (fun e w'' he => by
              cases e
              · exact step _ _ he
              · exact he
              · exact he)
          | exact Rows.mono h (fun _ _ he => step _ _ he)
    | halt z w' => cases z <;> simp only [Oper.upon] at h ⊢ <;> exact h
  · exact .inr ⟨h, q⟩
/-- It alone may come up. -/
theorem Hk.only {n : Nat} {listed : Array Bool} {a : Act} {w : World} {o : Oper} (i : Nat) (d : Option Nat) (hi : ops[i]? = some o)
    (h : wpList P ops (Nx Q fun a' w' => Kp S x j w w' ∧ Hk P ops Q S x j n (listed.setIfInBounds i true) a' w') [{ o with guard := none, dst := d }] a w)
    (hr : Region.ready .any ops listed = [i] := by kernel_rfl) (hw : Region.wanted o (yielded ops a.tmps) = true := by rfl) (hd : o.dst = d := by rfl) : Hk P ops Q S x j (n + 1) listed a w :=
  Hk.one i (Hk.pick i d hi h hw hd) hr
theorem Hk.pickCall {n : Nat} {listed : Array Bool} {a : Act} {w : World} {o : Oper} {f : FuncId} {args : Array Value} (i d : Nat) (hi : ops[i]? = some o)
    (h : Calls P f args w fun e w' => ∃ v a', e = .returned v ∧ a.put (some d) v = a' ∧ Kp S x j w w' ∧ Hk P ops Q S x j n (listed.setIfInBounds i true) a' w')
    (hrun : (execOp a.eval o).run P w = .ok (.enter f args) w)
    (hw : Region.wanted o (yielded ops a.tmps) = true := by rfl) (hd : o.dst = some d := by rfl) : Pkk P ops Q S x j n listed a w i := by
  rw [← hd] at h
  unfold Pkk wpOp
  simp only [hi, hw, if_true]
  refine .inl ?_
  unfold Oper.wp
  rw [hrun]
  refine h.mono fun e w' => ?_
  rintro ⟨v, a', rfl, rfl, hb, hh⟩
  exact ⟨hb, hh.on hb⟩
/-- A call of a Go function, it alone. -/
theorem Hk.call {n : Nat} {listed : Array Bool} {a : Act} {w : World} {o : Oper} {f : FuncId} {args : Array Value} (i d : Nat) (hi : ops[i]? = some o)
    (h : Calls P f args w fun e w' => ∃ v a', e = .returned v ∧ a.put (some d) v = a' ∧ Kp S x j w w' ∧ Hk P ops Q S x j n (listed.setIfInBounds i true) a' w')
    (hrun : (execOp a.eval o).run P w = .ok (.enter f args) w)
    (hr : Region.ready .any ops listed = [i] := by kernel_rfl) (hw : Region.wanted o (yielded ops a.tmps) = true := by rfl) (hd : o.dst = some d := by rfl) : Hk P ops Q S x j (n + 1) listed a w :=
  Hk.one i (Hk.pickCall i d hi h hrun hw hd) hr
/-- Behind a call. -/
theorem Hk.back {n d : Nat} {listed : Array Bool} {a a' : Act} {w w' : World} {v : Value} (hb : Kp S x j w w') (h : Hk P ops Q S x j n listed a' w')
    (ha : a.put (some d) v = a' := by simp only [Act.put, List.setIfInBounds_toArray, List.set_cons_succ, List.set_cons_zero]; rfl) :
    ∃ v' a', Ending.returned v = .returned v' ∧ a.put (some d) v' = a' ∧ Kp S x j w w' ∧ Hk P ops Q S x j n listed a' w' := ⟨v, a', rfl, ha, hb, h⟩
/-- Behind an operation that was alone, or was picked. -/
theorem Hk.next {n : Nat} {listed : Array Bool} {a a' : Act} {w w' : World} (hb : Kp S x j w w') (h : Hk P ops Q S x j n listed a' w')
    (ha : a = a' := by simp only [Act.put, List.setIfInBounds_toArray, List.set_cons_succ, List.set_cons_zero]; rfl) :
    wpList P ops (Nx Q fun a' w' => Kp S x j w w' ∧ Hk P ops Q S x j n listed a' w') [] a w' := by subst ha; exact ⟨hb, h⟩
theorem Hk.done {n : Nat} {listed : Array Bool} {a : Act} {w : World} (h : Q .normal a w) (hr : Region.ready .any ops listed = [] := by kernel_rfl) : Hk P ops Q S x j n listed a w :=
  wpAnyH_done hr (show NoPanic Q .normal a w from h) _
end
end Go.Proofs.YtacipjdaiglnjaaGreatDoor

/- What a process keeps of its view is built, boxed, in a region that draws. -/
namespace Go.Proofs.YtacipjdaiglnjaaGreatDoor
open Go.RowKit

/-- Its cells. -/
def tzc (q : Option Addr) (k : Int) : Array Value := #[.pointer q, .int .i64 k, .int .i64 0, .int .i64 0, .int .i64 0, .int .i64 0, .int .i64 0, .int .i64 0, .int .i64 0, .int .i64 0, .slice none 0 0]
def tzz : Array Value := #[.pointer none, .int .i64 0, .int .i64 0, .int .i64 0, .int .i64 0, .int .i64 0, .int .i64 0, .int .i64 0, .int .i64 0, .int .i64 0, .slice none 0 0]
theorem term_zero (w : World) : (zeroValue 173).run Tryz.prog w = .ok (.agg tzz) w := by kernel_rfl
theorem tzz_ne : (tzz = #[]) = False := by simp [tzz]
theorem tzz_sz : (tzz.size < 2) = False := by simp [tzz]
theorem tzz_set (q : Option Addr) (k : Int) : (tzz.setIfInBounds 0 (.pointer q)).setIfInBounds 1 (.int .i64 k) = tzc q k := by simp [tzz, tzc]
section
variable {w : World} {dst : Option Tmp} {ty : TypeId} {pos : String} {after : Array Edge} {guard : Option (Nat × Bool)} {ρ : Operand → Value}
theorem run_buildTe {y z : Operand} {q : Option Addr} {k : Int} (hy : ρ y = .pointer q) (hz : ρ z = .int .i64 k) :
    (execOp ρ { dst, op := .build 173 #[(0, y), (1, z)], type := ty, pos, after, guard }).run Tryz.prog w = .ok (.value (.agg (tzc q k))) w := by
  have h0 := term_zero w
  have h1 := tzz_ne
  have h2 := tzz_sz
  have h3 := tzz_set q k
  go_simp
theorem run_boxTe {y : Operand} {q : Option Addr} {k : Int} (hy : ρ y = .agg (tzc q k)) :
    (execOp ρ { dst, op := .box 173 y, type := ty, pos, after, guard }).run Tryz.prog w = .ok (.value (.pointer (some ⟨w.heap.size, 0, none⟩))) (w.alloc (.cells (tzc q k) 173)) := by
  unfold tzc at *
  go_simp
theorem stT {y z : Operand} {g i : Nat} {o : Option Addr} {q : Option Addr} (h : w.cell? ⟨g, i, none⟩ = some (.pointer o)) (hf : w.frozen? ⟨g, i, none⟩ = false) (hy : ρ y = .pointer (some ⟨g, i, none⟩)) (hz : ρ z = .pointer q) :
    (execOp ρ { dst := none, op := .store 72 y z, type := ty, pos, after, guard }).run Tryz.prog w = .ok .skip (w.setCell ⟨g, i, none⟩ (.pointer q)) := by
  go_simp
end
end Go.Proofs.YtacipjdaiglnjaaGreatDoor

/- A process installs the view that most voted for (install), where no vote has a log. -/
namespace Go.Proofs.YtacipjdaiglnjaaGreatDoor
open Go.RowKit PNode

/-- Behind its installing a view. -/
def term0 (p : Np) (V : List (Option Vt)) : Te := ⟨PVote.tm V, PQuo.upd PQuo.none7 p.id 0, (if (0 : Int) ≤ 0 then PQuo.upd PQuo.none7 p.id 0 else PQuo.none7), 0, 0, List.replicate 7 p.clock, 0, []⟩
def instP (p : Np) (v : Int) (V : List (Option Vt)) : Np := { p with L := [], com := 0, last := v, mem := PVote.tm V, te := some (term0 p V), vo := none, heard := p.clock }
def te0 (V : List (Option Vt)) : Te := ⟨PVote.tm V, PQuo.none7, PQuo.none7, 0, 0, List.replicate 7 0, 0, []⟩
def te1 (p : Np) (V : List (Option Vt)) : Te := ⟨PVote.tm V, PQuo.upd PQuo.none7 p.id 0, (if (0 : Int) ≤ 0 then PQuo.upd PQuo.none7 p.id 0 else PQuo.none7), 0, 0, List.replicate 7 0, 0, []⟩
/-- The term while those who were heard are noted. -/
def wordT (p : Np) (V : List (Option Vt)) (k : Nat) : Te := { te1 p V with word := List.replicate k p.clock ++ List.replicate (7 - k) 0 }
theorem word_at (p : Np) (V : List (Option Vt)) (qg : Nat) {k : Nat} (h : k < 7) : (tecs qg (wordT p V k) none 0)[2 + k]? = some (.int .i64 0) := by
  rcases (by omega : k = 0 ∨ k = 1 ∨ k = 2 ∨ k = 3 ∨ k = 4 ∨ k = 5 ∨ k = 6) with rfl | rfl | rfl | rfl | rfl | rfl | rfl <;> rfl
theorem word_set (p : Np) (V : List (Option Vt)) (qg : Nat) {k : Nat} (h : k < 7) : (tecs qg (wordT p V k) none 0).set (2 + k) (.int .i64 p.clock) = tecs qg (wordT p V (k + 1)) none 0 := by
  rcases (by omega : k = 0 ∨ k = 1 ∨ k = 2 ∨ k = 3 ∨ k = 4 ∨ k = 5 ∨ k = 6) with rfl | rfl | rfl | rfl | rfl | rfl | rfl <;> rfl
theorem cnt_le7 (t : Nat) : PTeam.cnt t ≤ 7 := by
  unfold PTeam.cnt
  exact Nat.le_trans List.countP_le_length (by simp)
theorem best0 {w : World} {g : Nat} {F : List Nat} {view n : Int} {V : List (Option Vt)} (h : Vs w g F view n V) (hp : PVote.Pl V) (hm : PTeam.most (PVote.tm V) n = true) {bf bl bc : Int} (hB : PVote.best n V = ⟨bf, bl, [], bc⟩) :
    Calls Tryz.prog 157 #[.pointer (some ⟨g, 0, none⟩)] w fun e w' => ∃ A c, e = .returned (.tuple #[.agg #[.int .i64 bf, .int .i64 bl, .slice A 0 c, .int .i64 bc], .bool true]) ∧ Ow w' w.heap.size 93 7 A 0 c (els []) ∧ Below w.heap.size w w' :=
  (vbest_yes w g F view n V h hp hm).mono fun e w' ⟨A, c, h1, h2, h3⟩ => by
    rw [hB] at h1 h2
    rw [hm] at h1
    exact ⟨A, c, h1, h2, h3⟩

set_option maxHeartbeats 8000000 in
set_option maxRecDepth 100000 in
theorem install_c {w : World} {x d : Nat} {F : List Nat} {p : Np} (h : Nd w x d F p) {v : Int} {V : List (Option Vt)} (hv : p.vo = some (v, V)) (hvp : v = p.pro) (hm : PTeam.most (PVote.tm V) p.n = true) (hme : PTeam.has (PVote.tm V) p.id = true) {bf bl bc : Int} (hB : PVote.best p.n V = ⟨bf, bl, [], bc⟩) :
    Calls Tryz.prog 107 #[.pointer (some ⟨x, 0, none⟩)] w (TickPost w x d F (fun Q p' => Q.map Mp.m = (PTeam.lst (PTeam.wout (PVote.tm V) p.id)).map (fun dst => sends (instP p v V) dst (instM (instP p v V))) ∧ p' = instP p v V)) := by
  obtain ⟨a, s0, hr⟩ := h.open
  have HR := Lib.hid hr
  have HH := Lib.hid h
  have HV := Lib.hid hv
  have HM := Lib.hid hm
  have HE := Lib.hid hme
  have HVP := Lib.hid hvp
  have S0 := Lib.hid s0
  have B0 : Blk w x 79 (ncs d p a) := s0.sep.get (i := 0) rfl
  have V0 : Vs w a.vg a.FV v p.n V := by have : (pV p.n a p.vo).P w := s0.sep.get (i := 3) rfl; rw [hv] at this; exact this
  have c11 : w.cell? ⟨x, 11, none⟩ = some (.pointer (some ⟨a.vg, 0, none⟩)) := by have : w.cell? ⟨x, 11, none⟩ = some (ptO p.vo a.vg) := B0.cell rfl; rw [hv] at this; exact this
  have V0' := Lib.hid V0
  have HBB := Lib.hid hB
  have hz : Nr (instP p v V) := ⟨hr.n, hr.id, hr.boot, hr.pro, hr.clock, ⟨hr.clock.1, Int.le_refl _⟩, ⟨by have := (hr.vo v V hv).1; show 0 ≤ v; omega, by show v ≤ p.pro; omega⟩, PVote.tm_lt V, ⟨Int.le_refl _, Int.le_refl _⟩, fun _ _ e => (by cases e), hr.den, hr.pf, hr.seq⟩
  have HZ := Lib.hid hz
  clear h hr s0 hv hm hme hvp B0 V0 hB hz
  go_enter Tryz.func107, Tryz.ntmps107
  go_wp2_with fail
  refine (best0 V0'.out (HR.out.vo v V HV.out).2.2 HM.out HBB.out).mono ?_
  rintro e w1 ⟨A, c, rfl, o1, b1⟩
  have O1 := Lib.hid ((o1.past ((Below.refl w1.heap.size w1).alloc (Nat.le_refl _) (.cells #[.int .i64 bf, .int .i64 bl, .slice A 0 c, .int .i64 bc] 160))).rd)
  have b2 := Lib.hid (b1.trans (((Below.refl w1.heap.size w1).alloc (Nat.le_refl _) (.cells #[.int .i64 bf, .int .i64 bl, .slice A 0 c, .int .i64 bc] 160)).mono b1.size))
  clear o1 b1 c11 V0'
  go_wp2_with fail
  have N2 := Lib.hid (HH.out.past b2.out)
  refine (take0_c N2.out O1.out bc).mono ?_
  rintro e w3 ⟨rfl, ⟨⟨F3, n3, hF3⟩, t3⟩⟩
  obtain ⟨a3, s3, -⟩ := n3.open
  have HF3 := Lib.hid hF3
  have HT3 := Lib.hid t3
  have S3 := Lib.hid s3
  have B3 : Blk w3 x 79 (ncs d { p with L := [], com := 0 } a3) := s3.sep.get (i := 0) rfl
  have V3 : Hid (Vs w3.drew a3.vg a3.FV v p.n V) := Lib.hid (by have : (pV p.n a3 p.vo).P w3 := s3.sep.get (i := 3) rfl; rw [HV.out] at this; exact this.drew)
  have c11 : w3.cell? ⟨x, 11, none⟩ = some (.pointer (some ⟨a3.vg, 0, none⟩)) := by have : w3.cell? ⟨x, 11, none⟩ = some (ptO p.vo a3.vg) := B3.cell rfl; rw [HV.out] at this; exact this
  have c7 : w3.cell? ⟨x, 7, none⟩ = some (.int .i64 p.last) := B3.cell rfl
  have c8 : w3.cell? ⟨x, 8, none⟩ = some (.int .i64 p.mem) := B3.cell rfl
  have f7 := B3.free 7
  have f8 := B3.free 8
  have BB3 := Lib.hid B3
  clear n3 hF3 t3 s3 B3 O1 N2
  go_upto_region 3 with fail
  go_cut [] from 23 to 38 (fun wx => Hid (St okN w3 wx F3 (parts x d { p with L := [], com := 0, last := v, mem := PVote.tm V } a3)))
  case first =>
    go_region_with (first | (go_at_call 90; refine (vview_c w3.drew a3.vg a3.FV v p.n V V3.out).mono ?_; rintro e w4 ⟨rfl, rfl⟩) | (go_at_call 159; refine (vteam_c w3.drew a3.vg a3.FV v p.n V V3.out).mono ?_; rintro e w4 ⟨rfl, rfl⟩))
    all_goals
      have B4 : Blk ((w3.setCell ⟨x, 7, none⟩ (.int .i64 v)).setCell ⟨x, 8, none⟩ (.int .i64 (PVote.tm V))) x 79 (ncs d { p with L := [], com := 0, last := v, mem := PVote.tm V } a3) := (BB3.out.set 7 (.int .i64 v)).set 8 (.int .i64 (PVote.tm V))
      have T4 : Touch [x] w3 ((w3.setCell ⟨x, 7, none⟩ (.int .i64 v)).setCell ⟨x, 8, none⟩ (.int .i64 (PVote.tm V))) := ((Touch.refl [x] w3).cell (g := x) (by simp) 7 _).cell (g := x) (by simp) 8 _
      have S4 := Lib.hid ((S3.out.set 0 rfl (pX_ok x d { p with L := [], com := 0, last := v, mem := PVote.tm V } a3) T4 B4 (fun k hk => .inl hk)).drew)
      clear B4 T4 c7 c8 c11 f7 f8
      generalize ((w3.setCell ⟨x, 7, none⟩ (.int .i64 v)).setCell ⟨x, 8, none⟩ (.int .i64 (PVote.tm V))).drew = w4 at *
      go_wp2_with fail
      go_meet
      exact S4
  case rest =>
    have S4 := hcut
    clear hcut c7 c8 c11 f7 f8 BB3 V3 S3
    have B4 : Blk wc x 79 (ncs d { p with L := [], com := 0, last := v, mem := PVote.tm V } a3) := S4.out.sep.get (i := 0) rfl
    have L4 : Hid (Lg wc a3.lg a3.FL []) := Lib.hid (S4.out.sep.get (i := 2) rfl)
    have BB4 := Lib.hid B4
    clear B4
    go_wp2_with fail
-- REGION (*curfew/node.Node).install 4 ninst4 4
    refine Hk.begin [] x 13 ?_
    refine Hk.take (v := .pointer (some ⟨x, 0, none⟩)) 0 39 rfl ?_ (fun _ _ => rfl)
    refine Hk.take (v := .pointer (some ⟨x, 0, none⟩)) 1 40 rfl ?_ (fun _ _ => rfl)
    refine Hk.take (v := .pointer (some ⟨x, 0, none⟩)) 2 41 rfl ?_ (fun w' hw' => by go_simp; first | done | rfl | (simp; omega))
    refine Hk.take (v := .pointer (some ⟨x, 1, none⟩)) 3 42 rfl ?_ (fun w' hw' => by go_simp; first | done | rfl | (simp; omega))
    refine Hk.take (v := .int .i64 p.n) 4 43 rfl ?_ (fun w' hw' => by exact ldInt (Kp.get (i := 1) hw' (by simp) (show Blk wc.drew x 79 (ncs d { p with L := [], com := 0, last := v, mem := PVote.tm V } a3) from BB4.out) (by decide) rfl) rfl)
    refine Hk.take (v := .pointer (some ⟨x, 0, none⟩)) 5 44 rfl ?_ (fun _ _ => rfl)
    refine Hk.take (v := .pointer (some ⟨x, 0, none⟩)) 6 45 rfl ?_ (fun w' hw' => by go_simp; first | done | rfl | (simp; omega))
    refine Hk.take (v := .pointer (some ⟨x, 8, none⟩)) 7 46 rfl ?_ (fun w' hw' => by go_simp; first | done | rfl | (simp; omega))
    refine Hk.take (v := .int .i64 (PVote.tm V : Nat)) 8 47 rfl ?_ (fun w' hw' => by exact ldTeam (Kp.get (i := 8) hw' (by simp) (show Blk wc.drew x 79 (ncs d { p with L := [], com := 0, last := v, mem := PVote.tm V } a3) from BB4.out) (by decide) rfl) rfl)
    refine Hk.take (v := .pointer (some ⟨x, 0, none⟩)) 9 48 rfl ?_ (fun _ _ => rfl)
    refine Hk.take (v := .pointer (some ⟨x, 0, none⟩)) 10 49 rfl ?_ (fun w' hw' => by go_simp; first | done | rfl | (simp; omega))
    refine Hk.take (v := .pointer (some ⟨x, 0, none⟩)) 11 50 rfl ?_ (fun w' hw' => by go_simp; first | done | rfl | (simp; omega))
    refine Hk.take (v := .int .i64 p.id) 12 51 rfl ?_ (fun w' hw' => by exact ldInt (Kp.get (i := 0) hw' (by simp) (show Blk wc.drew x 79 (ncs d { p with L := [], com := 0, last := v, mem := PVote.tm V } a3) from BB4.out) (by decide) rfl) rfl)
    refine Hk.take (v := .pointer (some ⟨x, 0, none⟩)) 14 53 rfl ?_ (fun _ _ => rfl)
    refine Hk.take (v := .pointer (some ⟨x, 0, none⟩)) 15 54 rfl ?_ (fun w' hw' => by go_simp; first | done | rfl | (simp; omega))
    refine Hk.take (v := .pointer (some ⟨x, 9, none⟩)) 16 55 rfl ?_ (fun w' hw' => by go_simp; first | done | rfl | (simp; omega))
    refine Hk.take (v := .pointer (some ⟨a3.lg, 0, none⟩)) 17 56 rfl ?_ (fun w' hw' => by exact ldLog (Kp.get (i := 9) hw' (by simp) (show Blk wc.drew x 79 (ncs d { p with L := [], com := 0, last := v, mem := PVote.tm V } a3) from BB4.out) (by decide) rfl) rfl)
    refine Hk.call (f := 160) (args := #[.int .i64 p.n, .int .i64 (PVote.tm V : Nat), .int .i64 p.id]) 13 52 rfl ?_ (run_callf Tryz.func160 (by kernel_rfl) (by kernel_rfl) (by simp only [List.map_toArray, List.map_cons, List.map_nil]; rfl))
    refine (qnew_yes wc.drew p.n p.id (PVote.tm V) HM.out HE.out).mono ?_
    rintro e w5 ⟨rfl, Q5, K5, b5⟩
    have L5 := Lib.hid (L4.out.drew.past b5)
    have Q5' := Lib.hid Q5
    have K5' := Lib.hid K5
    have b5' := Lib.hid b5
    clear Q5 K5
    refine Hk.back (Kp.of_touch (.of_below b5)) ?_
    refine Hk.call (f := 144) (args := #[.pointer (some ⟨a3.lg, 0, none⟩)]) 18 57 rfl ?_ (run_callf Tryz.func144 (by kernel_rfl) (by kernel_rfl) (by simp only [List.map_toArray, List.map_cons, List.map_nil]; rfl))
    refine (Len_c w5 a3.lg a3.FL [] L5.out).mono ?_
    rintro e w6 ⟨rfl, rfl⟩
    refine Hk.back (Kp.refl _ _ _ _) ?_
    refine Hk.take (v := .agg (tzc (some ⟨wc.drew.heap.size, 0, none⟩) 0)) 19 58 rfl ?_ (fun w' hw' => by exact run_buildTe rfl rfl)
    refine Hk.only 20 (some 59) rfl ?_
    refine wpList_runTo' rfl (.pointer (some ⟨w5.heap.size, 0, none⟩)) (w5.alloc (.cells (tzc (some ⟨wc.drew.heap.size, 0, none⟩) 0) 173)) (run_boxTe rfl) ?_
    refine Hk.next (Kp.of_touch (.of_below ((Below.refl _ _).alloc (Nat.le_refl _) _))) ?_
    refine Hk.take (v := .pointer (some ⟨x, 0, none⟩)) 21 60 rfl ?_ (fun w' hw' => by go_simp; first | done | rfl | (simp; omega))
    refine Hk.take (v := .pointer (some ⟨x, 13, none⟩)) 22 61 rfl ?_ (fun w' hw' => by go_simp; first | done | rfl | (simp; omega))
    refine Hk.only 23 none rfl ?_
    have B7 := Lib.hid (Blk.past (Blk.past (show Blk wc.drew x 79 (ncs d { p with L := [], com := 0, last := v, mem := PVote.tm V } a3) from BB4.out) b5'.out) ((Below.refl w5.heap.size w5).alloc (Nat.le_refl _) (.cells (tzc (some ⟨wc.drew.heap.size, 0, none⟩) 0) 173)))
    have c13' : (w5.alloc (.cells (tzc (some ⟨wc.drew.heap.size, 0, none⟩) 0) 173)).cell? ⟨x, 13, none⟩ = some (ptO p.te a3.tg) := B7.out.cell rfl
    have f13' := B7.out.free 13
    unfold ptO at c13'
    refine wpList_skipTo rfl rfl ((w5.alloc (.cells (tzc (some ⟨wc.drew.heap.size, 0, none⟩) 0) 173)).setCell ⟨x, 13, none⟩ (.pointer (some ⟨w5.heap.size, 0, none⟩))) (stT c13' f13' rfl rfl) ?_
    refine Hk.next (Kp.set _ _) ?_ (ha := rfl)
    refine Hk.done ?_
-- END
    have T7 := Lib.hid (show Blk (w5.alloc (.cells (tzc (some ⟨wc.drew.heap.size, 0, none⟩) 0) 173)) w5.heap.size 173 (tecs wc.drew.heap.size (te0 V) none 0) from Blk.new w5 _ _)
    have Q7 := Lib.hid (Q5'.out.past ((Below.refl w5.heap.size w5).alloc (Nat.le_refl _) (.cells (tzc (some ⟨wc.drew.heap.size, 0, none⟩) 0) 173)))
    have hb7 : Below wc.drew.heap.size wc.drew (w5.alloc (.cells (tzc (some ⟨wc.drew.heap.size, 0, none⟩) 0) 173)) := b5'.out.trans (((Below.refl w5.heap.size w5).alloc (Nat.le_refl _) (.cells (tzc (some ⟨wc.drew.heap.size, 0, none⟩) 0) 173)).mono b5'.out.size)
    have S7 := Lib.hid (S4.out.drew.put 4 rfl (pT_ok p.n p.id { a3 with tg := w5.heap.size, FT := [w5.heap.size, wc.drew.heap.size] } (some (te0 V))) hb7 (show Tm (w5.alloc (.cells (tzc (some ⟨wc.drew.heap.size, 0, none⟩) 0) 173)) w5.heap.size [w5.heap.size, wc.drew.heap.size] p.n p.id (te0 V) from ⟨wc.drew.heap.size, none, 0, T7.out, Q7.out, Og.nil _ _ _ _, rfl⟩) (by
      intro k hk
      simp only [pT, List.mem_cons, List.not_mem_nil, or_false] at hk
      rcases hk with rfl | rfl
      · exact b5'.out.size
      · exact Nat.le_refl _))
    have B8 := Lib.hid (show Blk ((w5.alloc (.cells (tzc (some ⟨wc.drew.heap.size, 0, none⟩) 0) 173)).setCell ⟨x, 13, none⟩ (.pointer (some ⟨w5.heap.size, 0, none⟩))) x 79 (ncs d { p with L := [], com := 0, last := v, mem := PVote.tm V, te := some (te0 V) } { a3 with tg := w5.heap.size, FT := [w5.heap.size, wc.drew.heap.size] }) from B7.out.set 13 _)
    have t8 : Touch [x] (w5.alloc (.cells (tzc (some ⟨wc.drew.heap.size, 0, none⟩) 0) 173)) ((w5.alloc (.cells (tzc (some ⟨wc.drew.heap.size, 0, none⟩) 0) 173)).setCell ⟨x, 13, none⟩ (.pointer (some ⟨w5.heap.size, 0, none⟩))) := (Touch.refl [x] _).cell (g := x) (by simp) 13 _
    have S8 := Lib.hid (show St okN w3 ((w5.alloc (.cells (tzc (some ⟨wc.drew.heap.size, 0, none⟩) 0) 173)).setCell ⟨x, 13, none⟩ (.pointer (some ⟨w5.heap.size, 0, none⟩))) F3 (parts x d { p with L := [], com := 0, last := v, mem := PVote.tm V, te := some (te0 V) } { a3 with tg := w5.heap.size, FT := [w5.heap.size, wc.drew.heap.size] }) from S7.out.set 0 rfl (pX_ok x d { p with L := [], com := 0, last := v, mem := PVote.tm V, te := some (te0 V) } { a3 with tg := w5.heap.size, FT := [w5.heap.size, wc.drew.heap.size] }) t8 B8.out (fun k hk => .inl hk))
    have hT : Tm ((w5.alloc (.cells (tzc (some ⟨wc.drew.heap.size, 0, none⟩) 0) 173)).setCell ⟨x, 13, none⟩ (.pointer (some ⟨w5.heap.size, 0, none⟩))) w5.heap.size [w5.heap.size, wc.drew.heap.size] p.n p.id (te0 V) := S8.out.sep.get (i := 4) rfl
    have T8 := Lib.hid (T7.out.touch t8 (by rw [List.mem_singleton]; exact T7.out.ne B7.out (by decide)))
    have Q8 := Lib.hid (Q7.out.touch t8 (by rw [List.mem_singleton]; exact fun h => Q7.out.ne B7.out (by decide) h.symm))
    have hqt := Lib.hid (show wc.drew.heap.size ≠ w5.heap.size from by have := Q5'.out.lt; omega)
    obtain ⟨qg, hqg⟩ : ∃ q, wc.drew.heap.size = q := ⟨_, rfl⟩
    obtain ⟨tg, htg⟩ : ∃ q, w5.heap.size = q := ⟨_, rfl⟩
    clear t8 T7 S7 Q7 B7 c13' f13' S4 b5' Q5' BB4 L4 L5 b5 hb7 hT
    rw [hqg, htg] at T8 Q8 S8
    rw [hqg, htg] at hqt
    rw [hqg, htg]
    clear B8
    generalize (w5.alloc (.cells (tzc (some ⟨qg, 0, none⟩) 0) 173)).setCell ⟨x, 13, none⟩ (.pointer (some ⟨tg, 0, none⟩)) = w8 at *
    have B8 : Hid (Blk w8 x 79 (ncs d { p with L := [], com := 0, last := v, mem := PVote.tm V, te := some (te0 V) } { a3 with tg := tg, FT := [tg, qg] })) := Lib.hid (S8.out.sep.get (i := 0) rfl)
    have L8 : Hid (Lg w8 a3.lg a3.FL []) := Lib.hid (S8.out.sep.get (i := 2) rfl)
    go_wp2_with fail
    refine (ackOwn0_c (p := { p with L := [], com := 0, last := v, mem := PVote.tm V }) (a := { a3 with tg := tg, FT := [tg, qg] }) (t := te0 V) B8.out T8.out Q8.out K5'.out L8.out).mono ?_
    rintro e w9 ⟨rfl, Q9, t9⟩
    have hgq : tg ∉ [qg] := by rw [List.mem_singleton]; exact fun h => hqt.out h.symm
    have T9 := Lib.hid (T8.out.touch t9 hgq)
    have S9 := Lib.hid (show St okN w3 w9 F3 ((parts x d { p with L := [], com := 0, last := v, mem := PVote.tm V, te := some (te0 V) } { a3 with tg := tg, FT := [tg, qg] }).set 4 (pT p.n p.id { a3 with tg := tg, FT := [tg, qg] } (some (te1 p V)))) from S8.out.set 4 rfl (pT_ok p.n p.id { a3 with tg := tg, FT := [tg, qg] } (some (te1 p V))) (t9.wide (by intro k hk; rw [List.mem_singleton.1 hk]; exact List.mem_cons_of_mem _ (List.mem_singleton.2 rfl))) (show Tm w9 tg [tg, qg] p.n p.id (te1 p V) from ⟨qg, none, 0, T9.out, Q9, Og.nil _ _ _ _, rfl⟩) (fun k hk => .inl hk))
    have B9 : Hid (Blk w9 x 79 (ncs d { p with L := [], com := 0, last := v, mem := PVote.tm V, te := some (te0 V) } { a3 with tg := tg, FT := [tg, qg] })) := Lib.hid (S9.out.sep.get (i := 0) rfl)
    have Q9' := Lib.hid Q9
    clear Q9 t9 hgq S8 T8 Q8 L8 B8
    go_wp2_with fail
    go_loopw [64] (fun s64 wr => ∃ k : Nat, s64 = .int .i64 (k : Int) ∧ k ≤ 7 ∧ Hid (Blk wr tg 173 (tecs qg (wordT p V k) none 0)) ∧ Hid (Touch [tg] w9 wr)) (fun s64 _ => 7 - (intOf s64).toNat)
    case atStart => exact ⟨0, rfl, by omega, Lib.hid T9.out, Lib.hid (Touch.refl _ _)⟩
    case round =>
      obtain ⟨k, rfl, hk, TK, tk⟩ := hrel
      have hne : x ≠ tg := B9.out.ne T9.out (by decide)
      have hne2 : tg ≠ x := fun h => hne h.symm
      have B10 : Hid (Blk wr x 79 (ncs d { p with L := [], com := 0, last := v, mem := PVote.tm V, te := some (te0 V) } { a3 with tg := tg, FT := [tg, qg] })) := Lib.hid (B9.out.touch tk.out (by rw [List.mem_singleton]; exact hne))
      by_cases hlt : k < 7
      · have c4 : wr.cell? ⟨x, 4, none⟩ = some (.int .i64 p.clock) := B10.out.cell rfl
        have c13 : wr.cell? ⟨x, 13, none⟩ = some (.pointer (some ⟨tg, 0, none⟩)) := B10.out.cell rfl
        have kk : wr.cell? ⟨tg, 2 + k, none⟩ = some (.int .i64 0) := TK.out.cell (word_at p V qg hlt)
        have fk := TK.out.free (2 + k)
        go_wp2_with fail
        go_big_region
        have TK2 := Lib.hid (show Blk (wr.setCell ⟨tg, 2 + k, none⟩ (.int .i64 p.clock)) tg 173 (tecs qg (wordT p V (k + 1)) none 0) by rw [← word_set p V qg hlt]; exact TK.out.set (2 + k) _)
        have tk2 := Lib.hid (tk.out.cell (g := tg) (by simp) (2 + k) (.int .i64 p.clock))
        clear kk fk c4 c13 B10
        go_wp2_with fail
        go_roundw
        case rel => exact ⟨k + 1, by go_num, by omega, Lib.hid (TK2.out.drew), Lib.hid tk2.out.drew⟩
        case measure => simp [intOf]; omega
      · obtain rfl : k = 7 := by omega
        have c4 : wr.cell? ⟨x, 4, none⟩ = some (.int .i64 p.clock) := B10.out.cell rfl
        have c5 : wr.cell? ⟨x, 5, none⟩ = some (.int .i64 p.heard) := B10.out.cell rfl
        have c11 : wr.cell? ⟨x, 11, none⟩ = some (ptO p.vo a3.vg) := B10.out.cell rfl
        have f5 := B10.out.free 5
        have f11 := B10.out.free 11
        unfold ptO at c11
        have S10 := Lib.hid (S9.out.set 4 rfl (pT_ok p.n p.id { a3 with tg := tg, FT := [tg, qg] } (some (term0 p V))) (tk.out.wide (by intro k hk; rw [List.mem_singleton.1 hk]; exact List.mem_cons_self ..)) (show Tm wr tg [tg, qg] p.n p.id (term0 p V) from ⟨qg, none, 0, TK.out, Q9'.out.touch tk.out (by rw [List.mem_singleton]; exact hqt.out), Og.nil _ _ _ _, rfl⟩) (fun k hk => .inl hk))
        have B12 := Lib.hid (show Blk ((wr.setCell ⟨x, 11, none⟩ (.pointer none)).setCell ⟨x, 5, none⟩ (.int .i64 p.clock)) x 79 (ncs d (instP p v V) { a3 with tg := tg, FT := [tg, qg] }) from (B10.out.set 11 (.pointer none)).set 5 (.int .i64 p.clock))
        have t12 : Touch [x] wr ((wr.setCell ⟨x, 11, none⟩ (.pointer none)).setCell ⟨x, 5, none⟩ (.int .i64 p.clock)) := ((Touch.refl [x] wr).cell (g := x) (by simp) 11 _).cell (g := x) (by simp) 5 _
        have S12 := Lib.hid (show St okN w3 _ F3 (parts x d (instP p v V) { a3 with tg := tg, FT := [tg, qg] }) from (S10.out.set 0 rfl (pX_ok x d (instP p v V) { a3 with tg := tg, FT := [tg, qg] }) t12 B12.out (fun k hk => .inl hk)).leave 3 rfl)
        go_wp2_with fail
        clear c4 c5 c11 f5 f11 S10 t12 B10 TK tk S9 T9 B9 Q9' hne hne2
        generalize (wr.setCell ⟨x, 11, none⟩ (.pointer none)).setCell ⟨x, 5, none⟩ (.int .i64 p.clock) = w12 at *
        refine (others_c B12.out (PVote.tm_lt V)).mono ?_
        rintro e w13 ⟨Ao, co, rfl, o13, b13⟩
        have RO := Lib.hid (Rd.of_own o13)
        have S13 := Lib.hid (S12.out.past b13)
        have B13 := Lib.hid (B12.out.past b13)
        have hz13 := Lib.hid (show w3.heap.size ≤ w13.heap.size from Nat.le_trans S12.out.touch.size b13.size)
        have hcnt := PTeam.lst_length (PTeam.wout (PVote.tm V) p.id)
        have h7c : PTeam.cnt (PTeam.wout (PVote.tm V) p.id) ≤ 7 := cnt_le7 _
        clear o13 b13 S12 B12
        go_wp2_with fail
        go_loopw [6, 93] (fun s6 s93 wq => ∃ (k : Nat) (A : Option Addr) (c : Nat) (Q : List Mp), s93 = .int .i64 (k : Int) ∧ k ≤ PTeam.cnt (PTeam.wout (PVote.tm V) p.id) ∧ Q.length ≤ 7 ∧ s6 = .slice A Q.length c ∧ Hid (Q.length = k ∧ Q.map Mp.m = ((PTeam.lst (PTeam.wout (PVote.tm V) p.id)).take k).map (fun dst => sends (instP p v V) dst (instM (instP p v V)))) ∧ Hid (Ow wq w13.heap.size 31 13 A Q.length c (mgs Q)) ∧ Hid (Below w13.heap.size w13 wq)) (fun _ s93 _ => 8 - (intOf s93).toNat)
        case atStart => exact ⟨0, none, 0, [], rfl, by omega, by simp, rfl, Lib.hid ⟨rfl, rfl⟩, Lib.hid (Ow.nil _ _ _ _), Lib.hid (Below.refl _ _)⟩
        case round =>
          obtain ⟨k, A5, c5, Q, rfl, hk, hq7, rfl, HQ, MM, BT⟩ := hrel
          by_cases hkc : k < PTeam.cnt (PTeam.wout (PVote.tm V) p.id)
          · have hq6 : Q.length ≤ 6 := by have := HQ.out.1; omega
            have R2 := (RO.out.past BT.out)
            obtain ⟨b, o, dst, hA, hcell, -, hdst⟩ := R2.int hkc
            subst hA
            have HD := Lib.hid hdst
            have B14 := Lib.hid (B13.out.below BT.out B13.out.lt)
            have L14 : Hid (Lg wr a3.lg a3.FL []) := Lib.hid (Lg.past (show Lg w13 a3.lg a3.FL [] from S13.out.sep.get (i := 2) rfl) BT.out)
            clear hdst R2
            go_wp2_with fail
            refine (installMsg_c B14.out L14.out rfl dst).mono ?_
            rintro e w15 ⟨A6, c6, rfl, b15⟩
            have MA := Lib.hid (MM.out.past (b15.trans ((Below.refl w15.heap.size w15).alloc (Nat.le_refl _) (.cells (mcs (sends (instP p v V) dst (instM (instP p v V))) A6 c6).toArray 31) |>.mono b15.size)))
            have RN := Lib.hid (Rd.new w15 (mcs (sends (instP p v V) dst (instM (instP p v V))) A6 c6).toArray 31 13 1 rfl (by unfold maxLen; omega))
            have HSZ := Lib.hid (show w13.heap.size ≤ (w15.alloc (.cells (mcs (sends (instP p v V) dst (instM (instP p v V))) A6 c6).toArray 31)).heap.size from Nat.le_trans BT.out.size (Nat.le_trans b15.size (by simp)))
            have B1 := Lib.hid ((BT.out.trans (b15.mono BT.out.size)).alloc (Nat.le_trans BT.out.size b15.size) (.cells (mcs (sends (instP p v V) dst (instM (instP p v V))) A6 c6).toArray 31))
            have HQ2 := Lib.hid (show (Q ++ [⟨sends (instP p v V) dst (instM (instP p v V)), A6, c6⟩] : List Mp).length = k + 1 ∧ (Q ++ [⟨sends (instP p v V) dst (instM (instP p v V)), A6, c6⟩] : List Mp).map Mp.m = ((PTeam.lst (PTeam.wout (PVote.tm V) p.id)).take (k + 1)).map (fun dst => sends (instP p v V) dst (instM (instP p v V))) by
              constructor
              · rw [List.length_append, List.length_singleton, HQ.out.1]
              · have hl : k < (PTeam.lst (PTeam.wout (PVote.tm V) p.id)).length := by omega
                have e : dst = (PTeam.lst (PTeam.wout (PVote.tm V) p.id))[k] := by
                  have e0 : dst = (PTeam.lst (PTeam.wout (PVote.tm V) p.id)).getD k 0 := HD.out
                  rw [e0, List.getD_eq_getElem?_getD, List.getElem?_eq_getElem hl]; rfl
                rw [List.map_append, HQ.out.2, List.take_add_one, List.map_append, List.getElem?_eq_getElem hl, ← e]
                rfl)
            clear b15 hcell B14 L14
            go_wp2_with (first | ((with_reducible show wpList _ _ _ ((⟨some 101, Op.buildSlice _ _ _, _, _, _, _⟩ : Oper) :: _) _ _); go_must (refine wpList_buildMs rfl (.tmp 100) rfl (sends (instP p v V) dst (instM (instP p v V))) A6 c6 rfl ?_)) | ((with_reducible show wpList _ _ _ ((⟨some 102, _, _, _, _, _⟩ : Oper) :: _) _ _); go_must (refine wpList_app2 rfl (.tmp 97) (.tmp 101) 34 rfl w13.heap.size 31 _ 13 120 Tryz.underlying34 nMsg_info rfl (by omega) A5 Q.length c5 (mgs Q) rfl MA.out _ _ 1 1 (mgc ⟨sends (instP p v V) dst (instM (instP p v V)), A6, c6⟩) rfl RN.out (mgc_oneCell _) (by unfold maxLen; omega) (by omega) HSZ.out ?_; intro A7 c7 w16 O3 g3 h3; have M3 := Lib.hid (show Ow w16 w13.heap.size 31 13 A7 (Q.length + 1) c7 (mgs (Q ++ [⟨sends (instP p v V) dst (instM (instP p v V)), A6, c6⟩])) by rw [mgs_append, mgs_one]; exact O3); have T3 := Lib.hid (B1.out.trans ((Touch.of_bk g3).below (B := w13.heap.size) (fun s hs => MA.out.low s (mem_bl.1 hs)) HSZ.out)); clear O3 g3 h3)))
            go_roundw
            case rel => exact ⟨k + 1, A7, c7, Q ++ [⟨sends (instP p v V) dst (instM (instP p v V)), A6, c6⟩], by go_num, by omega, by rw [HQ2.out.1]; omega, by simp, HQ2, by rw [List.length_append, List.length_singleton]; exact M3, T3⟩
            case measure => simp [intOf]; omega
          · obtain rfl : k = PTeam.cnt (PTeam.wout (PVote.tm V) p.id) := by omega
            go_wp2_with fail
            go_ret
            refine ⟨Q, instP p v V, A5, c5, ⟨?_, rfl⟩, rfl, ?_, ?_⟩
            · rw [HQ.out.2, List.take_of_length_le (by omega)]
            · exact MM.out.down (Nat.le_trans (Nat.le_trans b2.out.size HT3.out.size) hz13.out)
            · exact (NdW.then HF3.out HT3.out ((S13.out.past BT.out).shut HZ.out)).behind b2.out
end Go.Proofs.YtacipjdaiglnjaaGreatDoor

/- What a process is asked (View, Good, Clock ..). -/
namespace Go.Proofs.YtacipjdaiglnjaaGreatDoor
open Go.RowKit PNode

section
variable {w : World} {x d : Nat} {F : List Nat} {p : Np} (h : Nd w x d F p)
include h

set_option maxHeartbeats 2000000 in
theorem ndView_out (hf : inV p = false) : Calls Tryz.prog 15 #[.pointer (some ⟨x, 0, none⟩)] w fun e w' => e = .returned (.tuple #[.int .i64 0, .int .i64 0, .bool false]) ∧ Below w.heap.size w w' := by
  obtain ⟨a, s0, hr⟩ := h.open
  have HR := Lib.hid hr
  have S0 := Lib.hid s0
  have HB : Hid (Blk w x 79 (ncs d p a)) := Lib.hid (s0.sep.get (i := 0) rfl)
  have HF := Lib.hid hf
  clear h s0 hr hf
  go_enter Tryz.func15, Tryz.ntmps15
  go_wp2_with fail
  refine (ndIn_c HB.out (S0.out.sep.get (i := 1) rfl) HR.out.mem).mono ?_
  rw [HF.out]
  rintro e w1 ⟨rfl, b1⟩
  have b1' := Lib.hid b1
  clear b1
  go_wp2_with fail
  go_ret3
  exact ⟨rfl, b1'.out⟩

set_option maxHeartbeats 2000000 in
theorem ndView_in (hf : inV p = true) : Calls Tryz.prog 15 #[.pointer (some ⟨x, 0, none⟩)] w fun e w' => e = .returned (.tuple #[.int .i64 p.last, .int .i64 p.mem, .bool true]) ∧ Below w.heap.size w w' := by
  obtain ⟨a, s0, hr⟩ := h.open
  have HR := Lib.hid hr
  have S0 := Lib.hid s0
  have HB : Hid (Blk w x 79 (ncs d p a)) := Lib.hid (s0.sep.get (i := 0) rfl)
  have HF := Lib.hid hf
  clear h s0 hr hf
  go_enter Tryz.func15, Tryz.ntmps15
  go_wp2_with fail
  refine (ndIn_c HB.out (S0.out.sep.get (i := 1) rfl) HR.out.mem).mono ?_
  rw [HF.out]
  rintro e w1 ⟨rfl, b1⟩
  have b1' := Lib.hid b1
  have B1 := HB.out.past b1
  have c7 : w1.cell? ⟨x, 7, none⟩ = some (.int .i64 p.last) := B1.cell rfl
  have c8 : w1.cell? ⟨x, 8, none⟩ = some (.int .i64 p.mem) := B1.cell rfl
  clear b1 B1
  go_wp2_with fail
  go_quiet (fail)
  go_wp2_with fail
  go_ret3
  exact ⟨rfl, b1'.out.trans ((drewN_below _ _).mono b1'.out.size)⟩

set_option maxHeartbeats 2000000 in
theorem ndGood_out (hf : inV p = false) : Calls Tryz.prog 16 #[.pointer (some ⟨x, 0, none⟩)] w fun e w' => e = .returned (.bool false) ∧ Below w.heap.size w w' := by
  obtain ⟨a, s0, hr⟩ := h.open
  have HM := Lib.hid hr.mem
  have S0 := Lib.hid s0
  have HB : Hid (Blk w x 79 (ncs d p a)) := Lib.hid (s0.sep.get (i := 0) rfl)
  have HF := Lib.hid hf
  clear h s0 hr hf
  go_enter Tryz.func16, Tryz.ntmps16
  go_wp2_with fail
-- REGION (*curfew/node.Node).Good 1 ngoodf 2
  refine Hb.begin ?_
  refine Hb.take (v := .pointer (some ⟨x, 0, none⟩)) 0 3 rfl ?_ (fun _ _ => rfl)
  refine Hb.take (v := .bool true) 1 4 rfl ?_ (fun w' hw' => by go_simp; first | done | rfl | omega | exact wrap_in (by omega) (by omega) | exact Int.tmod_eq_emod_of_nonneg (by omega) | exact Int.tdiv_eq_ediv_of_nonneg (by omega) | (simp; omega))
  refine Hb.take (v := .bool true) 2 5 rfl ?_ (fun _ _ => rfl)
  refine Hb.take (v := .pointer (some ⟨x, 0, none⟩)) 3 6 rfl ?_ (fun _ _ => rfl)
  refine Hb.call (f := 36) (args := #[.pointer (some ⟨x, 0, none⟩)]) 4 7 rfl ?_ (run_callf Tryz.func36 (by kernel_rfl) (by kernel_rfl) (by simp only [List.map_toArray, List.map_cons, List.map_nil]; rfl))
  refine (ndIn_c (show Blk w.drew x 79 (ncs d p a) from HB.out) (S0.out.drew.sep.get (i := 1) rfl) HM.out).mono ?_
  rw [HF.out]
  rintro e w2 ⟨rfl, b2⟩
  have BE := Lib.hid ((Below.refl w.heap.size w).drew.trans b2)
  refine Hb.back b2 b2.size ?_
  refine Hb.take (v := .bool false) 5 8 rfl ?_ (fun _ _ => rfl)
  refine Hb.take (v := .bool false) 6 9 rfl ?_ (fun _ _ => rfl)
  refine Hb.pass 7 10 rfl ?_
  refine Hb.pass 8 11 rfl ?_
  refine Hb.pass 9 12 rfl ?_
  refine Hb.pass 10 13 rfl ?_
  refine Hb.pass 11 14 rfl ?_
  refine Hb.pass 12 15 rfl ?_
  refine Hb.pass 13 16 rfl ?_
  refine Hb.pass 14 17 rfl ?_
  refine Hb.pass 15 18 rfl ?_
  refine Hb.pass 16 19 rfl ?_
  refine Hb.pass 17 20 rfl ?_
  refine Hb.pass 18 21 rfl ?_
  refine Hb.pass 19 22 rfl ?_
  refine Hb.take (v := .bool false) 20 23 rfl ?_ (fun _ _ => rfl)
  refine Hb.take (v := .bool false) 21 2 rfl ?_ (fun _ _ => rfl)
  refine Hb.done ?_
-- END
  go_wp2_with fail
  go_ret
  exact ⟨rfl, BE.out⟩

end
end Go.Proofs.YtacipjdaiglnjaaGreatDoor

/- A process is made. -/
namespace Go.Proofs.YtacipjdaiglnjaaGreatDoor
open Go.RowKit

/-- A process that was just made. -/
def newP (id n boot pro : Int) : Np := ⟨id, n, boot, pro, 0, 0, boot == 1, 0, 0, [], 0, none, 0, none, some pro, PGram.zeroL, boot * 1048576, boot * 1048576, List.replicate 64 0, false, 0, 0, 0, [], [], []⟩
theorem new_r {id n boot pro : Int} (h1 : 3 ≤ n) (h2 : n ≤ 7) (h3 : 1 ≤ id) (h4 : id ≤ n) (h5 : 1 ≤ boot) (h6 : boot ≤ 1000) (h7 : 0 ≤ pro) (h8 : pro ≤ 1099511627776) : Nr (newP id n boot pro) :=
  ⟨⟨h1, h2⟩, ⟨h3, h4⟩, ⟨h5, by show boot ≤ _; omega⟩, ⟨h7, h8⟩, ⟨Int.le_refl _, by show (0 : Int) ≤ _; omega⟩, ⟨Int.le_refl _, Int.le_refl _⟩, ⟨Int.le_refl _, h7⟩, by show (0 : Nat) < 128; omega, ⟨Int.le_refl _, Int.le_refl _⟩, fun _ _ e => (by cases e), ⟨Int.le_refl _, by show (0 : Int) ≤ _; omega⟩,
    ⟨rfl, by show 0 ≤ boot * 1048576; omega, Int.le_refl _, by show boot * 1048576 ≤ _; omega, fun i hi => by
      have e : (List.replicate 64 (0 : Int)).getD i 0 = 0 := by
        rw [List.getD_eq_getElem?_getD, List.getElem?_replicate]; split <;> rfl
      show 0 ≤ (List.replicate 64 (0 : Int)).getD i 0 ∧ (List.replicate 64 (0 : Int)).getD i 0 ≤ _
      rw [e]; omega, by show (0 : Int) ≤ 0 ∧ (0 : Int) ≤ _; omega⟩, by show (0 : Int) ≤ 0 ∧ (0 : Int) ≤ _; omega⟩

set_option maxHeartbeats 4000000 in
set_option maxRecDepth 100000 in
theorem make_yes (w : World) (id n : Int) (d : Nat) (b pro : Int) (D : Ds w d b pro) (h1 : 3 ≤ n) (h2 : n ≤ 7) (h3 : 1 ≤ id) (h4 : id ≤ n) (h5 : 0 ≤ b) (h6 : b < 1000) (h7 : 0 ≤ pro) (h8 : pro ≤ 1099511627776) :
    Calls Tryz.prog 27 #[.int .i64 id, .int .i64 n, .pointer (some ⟨d, 0, none⟩)] w fun e w' => ∃ x F, e = .returned (.tuple #[.pointer (some ⟨x, 0, none⟩), .int .i64 0]) ∧ Nd w' x d F (newP id n (b + 1) pro) ∧ (∀ k ∈ F, k = d ∨ w.heap.size ≤ k) ∧ Touch [d] w w' := by
  have HN := Lib.hid (new_r (id := id) h1 h2 h3 h4 (show 1 ≤ b + 1 by omega) (show b + 1 ≤ 1000 by omega) h7 h8)
  have hm := Lib.hid (may_zero n)
  rw [decide_eq_true (show 3 ≤ n ∧ n ≤ 7 from ⟨h1, h2⟩)] at hm
  have hI : PGram.isId id = true := decide_eq_true (by omega)
  have HI := Lib.hid hI
  clear hI
  have b1 : b + 1 ≠ 0 := by omega
  go_enter Tryz.func27, Tryz.ntmps27
  go_wp2_with fail
  refine (tOf_c w w.heap.size none 0 0 [] (Rd.nil _ _ _)).mono ?_
  rintro e w' ⟨rfl, rfl⟩
  go_wp2_with fail
  refine (tMay_c w 0 n (by decide) (by decide)).mono ?_
  rw [hm.out]
  rintro e w' ⟨rfl, rfl⟩
  go_wp2_with fail
  refine (start_c w d b pro D (show 0 ≤ b ∧ b ≤ 1099511627776 by omega) (by omega)).mono ?_
  rintro e w1 ⟨rfl, D1, T1⟩
  have M1 : Mk okN w w1 d [pD d (newP id n (b + 1) pro)] := ⟨⟨fun p hp => by rw [List.mem_singleton.1 hp]; exact pD_ok _ _, fun p hp => by rw [List.mem_singleton.1 hp]; exact D1, List.pairwise_singleton _ _⟩, fun k hk => .inl (by simpa [allF, pD] using hk), T1⟩
  have H1 := Lib.hid M1
  clear M1 T1 D
  go_wp2_with fail
  refine (New_c w1 w1.heap.size none 0 0 [] (Rd.nil _ _ _)).mono ?_
  rintro e w2 ⟨lg, FL, rfl, L2, hL, b2⟩
  have D2 := D1.past b2
  have H2 := Lib.hid ((H1.out.snoc b2 (pL_ok (newP id n (b + 1) pro) ⟨lg, FL, 0, [], 0, [], 0, [], 0, 0, 0, 0, [], 0, [], 0⟩) L2 hL).none.none)
  clear H1 D1 L2 hL b2
  go_wp2_with fail
  refine (view_c w2 d _ pro D2).mono ?_
  rintro e w3 ⟨rfl, rfl⟩
  go_wp2_with fail
  refine (jnew_yes w2 id n (b + 1) pro h1 h2 h3 h4 (by omega) (by omega) h7 h8).mono ?_
  rintro e w3 ⟨rfl, J3, b3⟩
  have H3 := Lib.hid (H2.out.snoc b3 (pJ_ok id n (b + 1) ⟨lg, FL, 0, [], 0, [], w2.heap.size, [w2.heap.size], 0, 0, 0, 0, [], 0, [], 0⟩ (some pro)) J3 (by simp [pJ]))
  clear H2 D2 J3 b3
  go_wp2_with fail
  refine (gNew_yes w3 id HI.out).mono ?_
  rintro e w4 ⟨rfl, G4, b4⟩
  have H4 := Lib.hid (H3.out.snoc b4 (pG_ok (newP id n (b + 1) pro) ⟨lg, FL, 0, [], 0, [], w2.heap.size, [w2.heap.size], w3.heap.size, 0, 0, 0, [], 0, [], 0⟩) G4 (by simp [pG]))
  clear H3 G4 b4
  go_wp2_with fail
  refine (pnew_c w4 _).mono ?_
  rintro e w5 ⟨rfl, P5, b5⟩
  have H5 := Lib.hid (H4.out.snoc b5 (pP_ok (newP id n (b + 1) pro) ⟨lg, FL, 0, [], 0, [], w2.heap.size, [w2.heap.size], w3.heap.size, w4.heap.size, 0, 0, [], 0, [], 0⟩) P5 (by simp [pP]))
  clear H4 P5 b5
  go_wp2_with fail
  refine (pnew_yes w5 id (b + 1) (by omega) (by omega) (by omega) (by omega)).mono ?_
  rintro e w6 ⟨rfl, N6, b6⟩
  have H6 := Lib.hid (H5.out.snoc b6 (pN_ok (newP id n (b + 1) pro) ⟨lg, FL, 0, [], 0, [], w2.heap.size, [w2.heap.size], w3.heap.size, w4.heap.size, w5.heap.size, 0, [], 0, [], 0⟩) N6 (by simp [pN]))
  clear H5 N6 b6
  go_wp2_with fail
  refine (rdNew_c w6).mono ?_
  rintro e w7 ⟨rfl, R7, b7⟩
  have H7 := Lib.hid (H6.out.snoc b7 (pR_ok (newP id n (b + 1) pro) ⟨lg, FL, 0, [], 0, [], w2.heap.size, [w2.heap.size], w3.heap.size, w4.heap.size, w5.heap.size, w6.heap.size, [w6.heap.size], 0, [], 0⟩) R7 (by simp [pR]))
  clear H6 R7 b7
  go_wp2_with fail
  refine (tbNew_c w7).mono ?_
  rintro e w8 ⟨rfl, R8, b8⟩
  have H8 := Lib.hid (H7.out.snoc b8 (pB_ok (newP id n (b + 1) pro) ⟨lg, FL, 0, [], 0, [], w2.heap.size, [w2.heap.size], w3.heap.size, w4.heap.size, w5.heap.size, w6.heap.size, [w6.heap.size], w7.heap.size, [w7.heap.size], 0⟩) ⟨R8, Nat.zero_le _⟩ (by simp [pB]))
  clear H7 R8 b8
  go_wp2_with fail
  go_ret2
  have M9 := H8.out.cons (w' := w8.alloc (.cells #[.int .i64 id, .int .i64 n, .int .i64 (b + 1), .pointer (some ⟨d, 0, none⟩), .int .i64 0, .int .i64 0, .bool (b + 1 == 1), .int .i64 0, .int .i64 0, .pointer (some ⟨lg, 0, none⟩), .int .i64 0, .pointer none, .int .i64 0, .pointer none, .pointer (some ⟨w2.heap.size, 0, none⟩), .pointer (some ⟨w3.heap.size, 0, none⟩), .pointer (some ⟨w4.heap.size, 0, none⟩), .pointer (some ⟨w5.heap.size, 0, none⟩), .pointer (some ⟨w6.heap.size, 0, none⟩), .pointer (some ⟨w7.heap.size, 0, none⟩)] 79)) ((Below.refl _ _).alloc (Nat.le_refl _) _)
    (pX_ok w8.heap.size d (newP id n (b + 1) pro) ⟨lg, FL, 0, [], 0, [], w2.heap.size, [w2.heap.size], w3.heap.size, w4.heap.size, w5.heap.size, w6.heap.size, [w6.heap.size], w7.heap.size, [w7.heap.size], 0⟩) (Blk.new w8 _ _) (by simp [pX])
  exact ⟨w8.heap.size, _, rfl, ⟨⟨⟨lg, FL, 0, [], 0, [], w2.heap.size, [w2.heap.size], w3.heap.size, w4.heap.size, w5.heap.size, w6.heap.size, [w6.heap.size], w7.heap.size, [w7.heap.size], 0⟩, M9.sep, rfl⟩, HN.out⟩, M9.new, M9.touch⟩

end Go.Proofs.YtacipjdaiglnjaaGreatDoor

/- A law's process: what stands beside it stays; it installs behind a tick; which cannot be made. -/
namespace Go.Proofs.YtacipjdaiglnjaaGreatDoor
open Go.RowKit PNode

/-- What stays behind a call that writes a law's process. -/
structure Kept (w0 w w' : World) : Prop where
  bel : Below w0.heap.size w w'
  blk : ∀ (g : Nat) (t : TypeId) (ys : List Value), okN t = false → Blk w g t ys → Blk w' g t ys
  ow : ∀ (base k n c : Nat) (e : TypeId) (A : Option Addr) (xs : List Value), okN e = false → Ow w base e k A n c xs → Ow w' base e k A n c xs
/-- A law's process, made behind w0. -/
structure Sn (w0 w : World) (x d : Nat) (p : Np) : Prop where
  bel : Below w0.heap.size w0 w
  ex : ∃ F, Nd w x d F p ∧ ∀ k ∈ F, w0.heap.size ≤ k
section
variable {w0 w w' : World} {x d : Nat} {p : Np}
theorem Kept.of_below (hb : Below w.heap.size w w') (h0 : w0.heap.size ≤ w.heap.size) : Kept w0 w w' := ⟨hb.mono h0, fun _ _ _ _ h => h.past hb, fun _ _ _ _ _ _ _ _ h => h.past hb⟩
theorem Kept.trans {w2 : World} (h : Kept w0 w w') (k : Kept w0 w' w2) : Kept w0 w w2 := ⟨h.bel.trans k.bel, fun g t ys ht hB => k.blk g t ys ht (h.blk g t ys ht hB), fun b k' n c e A xs he hO => k.ow b k' n c e A xs he (h.ow b k' n c e A xs he hO)⟩
theorem Sn.r (h : Sn w0 w x d p) : Nr p := by obtain ⟨F, h1, -⟩ := h.ex; exact h1.r
theorem Sn.past (h : Sn w0 w x d p) (hb : Below w.heap.size w w') : Sn w0 w' x d p := by
  obtain ⟨F, h1, h2⟩ := h.ex
  exact ⟨h.bel.trans (hb.mono h.bel.size), F, h1.past hb, h2⟩
theorem Sn.alloc (h : Sn w0 w x d p) (o : Obj) : Sn w0 (w.alloc o) x d p := h.past ((Below.refl _ _).alloc (Nat.le_refl _) _)
theorem Sn.disk (h : Sn w0 w x d p) : Ds w d p.boot p.pro := by
  obtain ⟨F, h1, -⟩ := h.ex
  obtain ⟨a, s, -⟩ := h1.open
  exact s.sep.get (i := 1) rfl
theorem Sn.go {F : List Nat} {p' : Np} (h : Sn w0 w x d p) (hN : Nd w x d F p) (hF : ∀ k ∈ F, w0.heap.size ≤ k) (k : NdW w w' x d F p') : Sn w0 w' x d p' ∧ Kept w0 w w' := by
  obtain ⟨⟨F', n', hs⟩, t⟩ := k
  have hb : Below w0.heap.size w w' := t.below hF h.bel.size
  refine ⟨⟨h.bel.trans hb, F', n', fun z hz => ?_⟩, hb, fun g ty ys ht hB => hB.touch t (hN.off hB ht), fun b k' n c e A xs he hO => hO.touch t (fun g hg hA => ?_)⟩
  · rcases hs z hz with h1 | h1
    · exact hF z h1
    · exact Nat.le_trans h.bel.size h1
  · obtain ⟨zs, hZ⟩ := hO.blk hA
    exact hN.off hZ he hg
/-- A call that writes it. -/
theorem Sn.post (h : Sn w0 w x d p) {f : FuncId} {args : Array Value} {C : List Mp → Np → Prop} (k : ∀ F, Nd w x d F p → Calls Tryz.prog f args w (TickPost w x d F C)) :
    Calls Tryz.prog f args w fun e w' => ∃ Q p' A c, C Q p' ∧ e = .returned (.slice A Q.length c) ∧ Ow w' w.heap.size 31 13 A Q.length c (mgs Q) ∧ Sn w0 w' x d p' ∧ Kept w0 w w' := by
  obtain ⟨F, h1, h2⟩ := h.ex
  refine (k F h1).mono ?_
  rintro e w' ⟨Q, p', A, c, q1, rfl, q3, q4⟩
  obtain ⟨k1, k2⟩ := h.go h1 h2 q4
  exact ⟨Q, p', A, c, q1, rfl, q3, k1, k2⟩
theorem Sn.make (hb : Below w0.heap.size w0 w) {id n : Int} {d : Nat} {b pro : Int} (D : Ds w d b pro) (hd : w0.heap.size ≤ d) (h1 : 3 ≤ n) (h2 : n ≤ 7) (h3 : 1 ≤ id) (h4 : id ≤ n) (h5 : 0 ≤ b) (h6 : b < 1000) (h7 : 0 ≤ pro) (h8 : pro ≤ 1099511627776) :
    Calls Tryz.prog 27 #[.int .i64 id, .int .i64 n, .pointer (some ⟨d, 0, none⟩)] w fun e w' => ∃ x, e = .returned (.tuple #[.pointer (some ⟨x, 0, none⟩), .int .i64 0]) ∧ Sn w0 w' x d (newP id n (b + 1) pro) ∧ Below w0.heap.size w w' := by
  refine (make_yes w id n d b pro D h1 h2 h3 h4 h5 h6 h7 h8).mono ?_
  rintro e w' ⟨x, F, rfl, N, hF, t⟩
  have hb' : Below w0.heap.size w w' := t.below (by intro k hk; rw [List.mem_singleton.1 hk]; exact hd) hb.size
  refine ⟨x, rfl, ⟨hb.trans hb', F, N, fun k hk => ?_⟩, hb'⟩
  rcases hF k hk with rfl | h
  · exact hd
  · exact Nat.le_trans hb.size h
end

/-! Which cannot be made. -/
set_option maxHeartbeats 4000000 in
theorem gather_inst {w : World} {x d : Nat} {F : List Nat} {p : Np} (h : Nd w x d F p) {v : Int} {V : List (Option Vt)} (hv : p.vo = some (v, V)) (hvp : v = p.pro) (hm : PTeam.most (PVote.tm V) p.n = true) (hme : PTeam.has (PVote.tm V) p.id = true) {bf bl bc : Int} (hB : PVote.best p.n V = ⟨bf, bl, [], bc⟩) :
    Calls Tryz.prog 64 #[.pointer (some ⟨x, 0, none⟩)] w (TickPost w x d F (fun Q p' => Q.map Mp.m = (PTeam.lst (PTeam.wout (PVote.tm V) p.id)).map (fun dst => sends (instP p v V) dst (instM (instP p v V))) ∧ p' = instP p v V)) := by
  obtain ⟨a, s0, hr⟩ := h.open
  have HH := Lib.hid h
  have B0 : Blk w x 79 (ncs d p a) := s0.sep.get (i := 0) rfl
  have V0 : Vs w a.vg a.FV v p.n V := by have : (pV p.n a p.vo).P w := s0.sep.get (i := 3) rfl; rw [hv] at this; exact this
  have c11 : w.cell? ⟨x, 11, none⟩ = some (.pointer (some ⟨a.vg, 0, none⟩)) := by have : w.cell? ⟨x, 11, none⟩ = some (ptO p.vo a.vg) := B0.cell rfl; rw [hv] at this; exact this
  have VV := Lib.hid V0
  have HV := Lib.hid hv
  have HP := Lib.hid hvp
  have HM := Lib.hid hm
  have HE := Lib.hid hme
  have HB := Lib.hid hB
  clear h hr s0 B0 V0 hv hm hme hB hvp
  go_enter Tryz.func64, Tryz.ntmps64
  go_wp2_with fail
  refine (venough_c w a.vg a.FV v p.n V VV.out).mono ?_
  rw [HM.out]
  rintro e w1 ⟨rfl, b1⟩
  have N1 := Lib.hid (HH.out.past b1)
  have b1' := Lib.hid b1
  clear c11 b1
  go_wp2_with fail
  refine (install_c N1.out HV.out HP.out HM.out HE.out HB.out).mono ?_
  rintro e w2 h2
  have P2 := TickPost.behind h2 b1'.out
  clear h2
  obtain ⟨Q, p', A, c, q1, rfl, q3, q4⟩ := P2
  have Q1 := Lib.hid q1
  have Q3 := Lib.hid q3
  have Q4 := Lib.hid q4
  clear q1 q3 q4
  go_wp2_with fail
  go_ret
  exact ⟨Q, p', A, c, Q1.out, rfl, Q3.out, Q4.out⟩
end Go.Proofs.YtacipjdaiglnjaaGreatDoor

/- A law's process with who asks it, and what else the law holds (blocks B) beside them. -/
namespace Go.Proofs.YtacipjdaiglnjaaGreatDoor
open Go.RowKit PNode

/-- Who asks, at block g: his process, how many he was told, how many Casts were refused. -/
def clcs (q : Option Addr) (k l : Int) : List Value := [.pointer q, .int .i64 k, .int .i64 l] ++ List.replicate 15 (.int .i64 0)
def Cl (w : World) (g : Nat) (q : Option Addr) (k l : Int) : Prop := Blk w g 89 (clcs q k l)
/-- What lies beside stays. -/
def Sty (B : List Nat) (w w' : World) : Prop := ∃ S, Touch S w w' ∧ ∀ b ∈ B, b ∉ S
/-- A law's process and who asks it. -/
structure La (w0 w : World) (x d g : Nat) (B : List Nat) (p : Np) (k l : Int) : Prop where
  ex : ∃ F, Nd w x d F p ∧ (∀ z ∈ F, w0.heap.size ≤ z) ∧ ∀ b ∈ B, b ∉ F
  cl : Cl w g (some ⟨x, 0, none⟩) k l
  gl : w0.heap.size ≤ g
  gB : g ∉ B
  hB : ∀ b ∈ B, b < w.heap.size
  bel : Below w0.heap.size w0 w

section
variable {w0 w w' w2 : World} {x d g : Nat} {B F S : List Nat} {p p' : Np} {k l k' l' : Int} {q : Option Addr}
theorem Cl.past (h : Cl w g q k l) (hb : Below w.heap.size w w') : Cl w' g q k l := Blk.past h hb
theorem Cl.off (h : Cl w g q k l) (n : Nd w x d F p) : g ∉ F := n.off h rfl
theorem Sty.of_below (hb : Below w.heap.size w w') : Sty B w w' := ⟨[], .of_below hb, by simp⟩
theorem Sty.trans (h : Sty B w w') (h2 : Sty B w' w2) : Sty B w w2 := by
  obtain ⟨S, t, hs⟩ := h
  obtain ⟨S', t', hs'⟩ := h2
  refine ⟨S ++ S', (t.wide fun z hz => List.mem_append_left _ hz).trans (t'.wide fun z hz => List.mem_append_right _ hz), fun b hb hm => ?_⟩
  rcases List.mem_append.1 hm with h | h
  · exact hs b hb h
  · exact hs' b hb h
theorem Sty.blk (h : Sty B w w') {b : Nat} (hb : b ∈ B) {t : TypeId} {ys : List Value} (K : Blk w b t ys) : Blk w' b t ys := by
  obtain ⟨S, t, hs⟩ := h
  exact K.touch t (hs b hb)
theorem Sty.ow (h : Sty B w w') {base j n c : Nat} {e : TypeId} {A : Option Addr} {xs : List Value} (hb : ∀ b ∈ bl A, b ∈ B) (K : Ow w base e j A n c xs) : Ow w' base e j A n c xs := by
  obtain ⟨S, t, hs⟩ := h
  exact K.touch t fun z hz hA => hs z (hb z (mem_bl.2 hA)) hz
theorem La.past (h : La w0 w x d g B p k l) (hb : Below w.heap.size w w') : La w0 w' x d g B p k l := by
  obtain ⟨F, h1, h2, h3⟩ := h.ex
  exact ⟨⟨F, h1.past hb, h2, h3⟩, h.cl.past hb, h.gl, h.gB, fun b hm => Nat.lt_of_lt_of_le (h.hB b hm) hb.size, h.bel.trans (hb.mono h.bel.size)⟩
theorem La.alloc (h : La w0 w x d g B p k l) (o : Obj) : La w0 (w.alloc o) x d g B p k l := h.past ((Below.refl _ _).alloc (Nat.le_refl _) _)
theorem La.drew (h : La w0 w x d g B p k l) : La w0 w.drew x d g B p k l := h.past (Below.refl _ _).drew
theorem La.r (h : La w0 w x d g B p k l) : Nr p := by obtain ⟨F, h1, -⟩ := h.ex; exact h1.r
/-- The process is another one now. -/
theorem La.node (h : La w0 w x d g B p k l) (hN : Nd w x d F p) (hF : ∀ z ∈ F, w0.heap.size ≤ z) (hB : ∀ b ∈ B, b ∉ F) (W : NdW w w' x d F p') : La w0 w' x d g B p' k l ∧ Sty B w w' := by
  obtain ⟨⟨F', n', hs⟩, t⟩ := W
  refine ⟨⟨⟨F', n', fun z hz => ?_, fun b hb hm => ?_⟩, Blk.touch h.cl t (h.cl.off hN), h.gl, h.gB, fun b hm => Nat.lt_of_lt_of_le (h.hB b hm) t.size, h.bel.trans (t.below hF h.bel.size)⟩, F, t, hB⟩
  · rcases hs z hz with h1 | h1
    · exact hF z h1
    · exact Nat.le_trans h.bel.size h1
  · rcases hs b hm with h1 | h1
    · exact hB b hb h1
    · have := h.hB b hb; omega
/-- Who asks it is another one now. -/
theorem La.client (h : La w0 w x d g B p k l) (t : Touch [g] w w') (K : Cl w' g (some ⟨x, 0, none⟩) k' l') : La w0 w' x d g B p k' l' ∧ Sty B w w' := by
  obtain ⟨F, h1, h2, h3⟩ := h.ex
  have hg : ∀ b ∈ B, b ∉ [g] := fun b hb hm => by rw [List.mem_singleton.1 hm] at hb; exact h.gB hb
  exact ⟨⟨⟨F, h1.touch t (fun z hz => by rw [List.mem_singleton.1 hz]; exact h.cl.off h1), h2, h3⟩, K, h.gl, h.gB, fun b hm => Nat.lt_of_lt_of_le (h.hB b hm) t.size, h.bel.trans (t.below (fun z hz => by rw [List.mem_singleton.1 hz]; exact h.gl) h.bel.size)⟩, [g], t, hg⟩
/-- What lies beside was written, or made. -/
theorem La.beside (h : La w0 w x d g B p k l) (t : Touch S w w') (hS : ∀ s ∈ S, w0.heap.size ≤ s ∧ s ∈ B) {B' : List Nat} (hB' : ∀ b ∈ B', b ∈ B ∨ (w.heap.size ≤ b ∧ b < w'.heap.size)) : La w0 w' x d g B' p k l := by
  obtain ⟨F, h1, h2, h3⟩ := h.ex
  have hg := Blk.lt h.cl
  refine ⟨⟨F, h1.touch t (fun z hz => h3 z (hS z hz).2), h2, fun b hb hm => ?_⟩, Blk.touch h.cl t (fun hm => h.gB (hS g hm).2), h.gl, fun hm => ?_, fun b hb => ?_, h.bel.trans (t.below (fun z hz => (hS z hz).1) h.bel.size)⟩
  · rcases hB' b hb with h4 | h4
    · exact h3 b h4 hm
    · have := h1.hi b hm; omega
  · rcases hB' g hm with h4 | h4
    · exact h.gB h4
    · omega
  · rcases hB' b hb with h4 | h4
    · exact Nat.lt_of_lt_of_le (h.hB b h4) t.size
    · exact h4.2
/-- A call that writes the process. -/
theorem La.post (h : La w0 w x d g B p k l) {f : FuncId} {args : Array Value} {C : List Mp → Np → Prop} (hk : ∀ F, Nd w x d F p → Calls Tryz.prog f args w (TickPost w x d F C)) :
    Calls Tryz.prog f args w fun e w' => ∃ Q p' A c, C Q p' ∧ e = .returned (.slice A Q.length c) ∧ Ow w' w.heap.size 31 13 A Q.length c (mgs Q) ∧ La w0 w' x d g B p' k l ∧ Sty B w w' := by
  obtain ⟨F, h1, h2, h3⟩ := h.ex
  refine (hk F h1).mono ?_
  rintro e w' ⟨Q, p', A, c, q1, rfl, q3, q4⟩
  obtain ⟨k1, k2⟩ := h.node h1 h2 h3 q4
  exact ⟨Q, p', A, c, q1, rfl, q3, k1, k2⟩
/-- Another one that asks the same process. -/
theorem La.swap {g2 : Nat} {k2 l2 : Int} (h : La w0 w x d g [g2] p k l) (K : Cl w g2 (some ⟨x, 0, none⟩) k2 l2) (hg : w0.heap.size ≤ g2) : La w0 w x d g2 [g] p k2 l2 := by
  obtain ⟨F, h1, h2, h3⟩ := h.ex
  have hne : g ≠ g2 := fun e => h.gB (by rw [e]; exact List.mem_singleton.2 rfl)
  exact ⟨⟨F, h1, h2, fun b hb => by rw [List.mem_singleton.1 hb]; exact h.cl.off h1⟩, K, hg, fun hm => hne (List.mem_singleton.1 hm).symm, fun b hb => by rw [List.mem_singleton.1 hb]; exact Blk.lt h.cl, h.bel⟩
theorem La.tab (h : La w0 w x d g B p k l) (ht : Tab w0) : Tab w := ht.past h.bel
end
end Go.Proofs.YtacipjdaiglnjaaGreatDoor

/- Contracts of put, Do. -/
namespace Go.Proofs.YtacipjdaiglnjaaGreatDoor
open Go.RowKit PTab

theorem ins_ok {L : List Pr} (h : Ok L) {a v : ByteArray} {d : Bool} (hs : a.size + v.size ≤ 16) (hv : d = false → v.size ≠ 0) : Ok (ins a v L d) := by
  refine ⟨srt_ins a v h.srt d, fun p hp => ?_, fun p hp => ?_⟩
  · rcases ins_mem hp with ⟨rfl, -⟩ | hp
    · exact hs
    · exact h.sz p hp
  · rcases ins_mem hp with ⟨rfl, hd⟩ | hp
    · exact hv hd
    · exact h.val p hp
/-- A block that is new may be written, too. -/
theorem Touch.newer {S : List Nat} {a b c : World} {k : Nat} (h : Touch S a b) (hg : b.grownBy c (some k)) (hk : a.heap.size ≤ k) : Touch S a c :=
  ⟨hg.os.trans h.os, hg.tape.trans h.tape, hg.output.trans h.output, Nat.le_trans h.size hg.size, fun j hj hn => (hg.block j (Nat.lt_of_lt_of_le hj h.size) (by simp; omega)).trans (h.block j hj hn)⟩
theorem wpList_putT {w : World} {b c : Nat} {L : List Pr} {ops : Array Oper} {rest : List Oper} {o : Oper} {s : Act} {Q : Exit → Act → World → Prop} (hg : o.guard = none) (m x v : Operand) (hop : o.op = Op.mapUpdate 102 m x v)
    (h : Mt w b c L) (hs : Srt L) (a u : ByteArray) (ha : a.size ≤ maxLen) (hc : c < maxLen) (hm : s.eval m = .map (some b)) (hx : s.eval x = .string a) (hv : s.eval v = .agg #[.string u])
    (hK : ∀ w', Mt w' b (c + 1) (ins a u L false) → w.grownBy w' (some b) → wpList Tryz.prog ops Q rest (s.put o.dst undef) w') : wpList Tryz.prog ops Q (o :: rest) s w := by
  refine wpList_plain hg fun K' hK' => ?_
  obtain ⟨w', hrun, r1, r2⟩ := h.put hs a u ha hc
  unfold Oper.wp
  simp [execOp, hop, hm, hx, hv, hrun, Result.andThen]
  exact hK' _ _ (hK w' r1 r2)

set_option maxHeartbeats 1000000 in
set_option maxRecDepth 100000 in
theorem put_c (w : World) (g : Nat) (F : List Nat) (c : Nat) (L : List Pr) (h : Tb w g F c L) (a v : ByteArray) (hs : a.size + v.size ≤ 16) (hv : v.size ≠ 0) (hc : c < 1000000) :
    Calls Tryz.prog 130 #[.pointer (some ⟨g, 0, none⟩), .string a, .string v] w fun x w' => x = .returned (.tuple #[]) ∧ TW w w' g F (c + 1) (ins a v L false) := by
  obtain ⟨q, hB, hM, rfl⟩ := h.ex
  have HOK := Lib.hid (ins_ok h.ok (d := false) hs (fun _ => hv))
  have HS := Lib.hid h.ok.srt
  have HA := Lib.hid (show a.size ≤ maxLen by unfold maxLen; omega)
  have HC := Lib.hid (show c < maxLen by unfold maxLen; omega)
  clear h
  rcases hM with ⟨hq, rfl⟩ | ⟨b, hq, hM⟩
  · cases hq
    have hnil : ∀ W, (binOp .eql 102 (.map none) (.map none)).run Tryz.prog W = .ok (.bool true) W := fun W => run_eql_map_nil W _ _ _ none Tryz.underlying102
    have hmm := @run_makeMap Tryz.prog
    have Bm := (Below.refl w.heap.size w).alloc (Nat.le_refl _) (.map #[] 0)
    have hM1 := Mt.made w
    have hB1 := hB.past Bm
    have hgm : w.heap.size ≠ g := hM1.ne hB1
    have hs := Touch.of_grown (grown_set (w.alloc (.map #[] 0)) g 0 (.map (some w.heap.size)))
    have hB2 := hB1.set 0 (.map (some w.heap.size))
    have hM2 := hM1.touch hs (by simpa using hgm)
    have hT2 : Touch [g] w _ := (Touch.of_below Bm).trans hs
    have d1 := hB.cell (i := 0) rfl
    have e1 := hB1.cell (i := 0) rfl
    have f1 := hB1.free 0
    have k2 := hB2.cell (i := 0) rfl
    simp only [List.set_cons_zero] at hB2 k2
    have HX := Lib.hid (And.intro hB2 (And.intro hM2 hT2))
    have HLT := Lib.hid hB.lt
    clear hB hB1 hM1 Bm hs hB2 hM2 hT2
    go_enter Tryz.func130, Tryz.ntmps130
    go_wp2_with (at_mapUpdate; refine wpList_putT rfl (.tmp 18) (.tmp 19) (.tmp 21) rfl HX.out.2.1 HS.out a v HA.out (by unfold maxLen; omega) rfl rfl rfl ?_)
    intro w4 m4 g4
    go_wp2_with fail
    go_end0
    refine ⟨rfl, ⟨⟨[g, w.heap.size], ⟨⟨some w.heap.size, HX.out.1.far g4 hgm.symm, .inr ⟨_, rfl, m4.mono (by omega)⟩, rfl⟩, HOK.out⟩, fun k hk => ?_⟩, HX.out.2.2.newer g4 (Nat.le_refl _)⟩⟩
    · rcases List.mem_cons.1 hk with rfl | hk
      · exact .inl (List.mem_cons_self ..)
      · rw [List.mem_singleton.1 hk]; exact .inr (Nat.le_refl _)
  · cases hq
    have hne : ∀ W, (binOp .eql 102 (.map (some b)) (.map none)).run Tryz.prog W = .ok (.bool false) W := fun W => run_eql_map_nil W _ _ _ (some b) Tryz.underlying102
    have d1 := hB.cell (i := 0) rfl
    have HB := Lib.hid hB
    have HM := Lib.hid hM
    have HN := Lib.hid (hM.ne hB)
    clear hB hM
    go_enter Tryz.func130, Tryz.ntmps130
    go_wp2_with (at_mapUpdate; refine wpList_putT rfl (.tmp 18) (.tmp 19) (.tmp 21) rfl HM.out HS.out a v HA.out HC.out rfl rfl rfl ?_)
    intro w4 m4 g4
    go_wp2_with fail
    go_end0
    exact ⟨rfl, ⟨⟨[g, b], ⟨⟨some b, HB.out.far g4 HN.out.symm, .inr ⟨_, rfl, m4⟩, rfl⟩, HOK.out⟩, fun k hk => .inl hk⟩, (Touch.of_grown g4).wide (fun k hk => List.mem_cons_of_mem _ hk)⟩⟩
end Go.Proofs.YtacipjdaiglnjaaGreatDoor

/- Contract of Do. -/
namespace Go.Proofs.YtacipjdaiglnjaaGreatDoor
open Go.RowKit PTab

theorem word_size {s a b : ByteArray} (h : word s = some (a, b)) : a.size + b.size + 1 = s.size ∧ 0 < a.size := by
  unfold word at h
  split at h
  · next i he =>
    have := cut_facts he
    cases h
    simp only [ByteArray.size_extract]
    omega
  · cases h
theorem Tq.drop {w : World} {M : Value} {c : Nat} {L : List Pr} (h : Tq w M c L) (hs : Srt L) (a v : ByteArray) (ha : a.size ≤ maxLen) (ty : TypeId) : ∃ w', (Builtin.delete_ #[102, 9] ty #[M, .string a]).run Tryz.prog w = .ok (.tuple #[]) w' ∧ Tq w' M c (ins a v L true) ∧ Touch (tml M) w w' := by
  rcases h with ⟨rfl, rfl⟩ | ⟨b, rfl, h⟩
  · exact ⟨w, Maps.drop_nil lawK Tryz.underlying102 (keyOf_n ha) ty, .inl ⟨rfl, rfl⟩, Touch.refl _ _⟩
  · obtain ⟨w', h1, h2, h3⟩ := h.drop hs a v ha ty
    exact ⟨w', h1, .inr ⟨b, rfl, h2⟩, Touch.of_grown h3⟩
theorem wpList_dropT {w : World} {M : Value} {c : Nat} {L : List Pr} {ops : Array Oper} {rest : List Oper} {o : Oper} {s : Act} {Q : Exit → Act → World → Prop} (hg : o.guard = none) (m x : Operand) (hop : o.op = Op.call { callee := Callee.builtin Builtin.delete, args := #[m, x], argTypes := #[102, 9] })
    (h : Tq w M c L) (hs : Srt L) (a v : ByteArray) (ha : a.size ≤ maxLen) (hm : s.eval m = M) (hx : s.eval x = .string a)
    (hK : ∀ w', Tq w' M c (ins a v L true) → Touch (tml M) w w' → wpList Tryz.prog ops Q rest (s.put o.dst (.tuple #[])) w') : wpList Tryz.prog ops Q (o :: rest) s w := by
  refine wpList_plain hg fun K' hK' => ?_
  obtain ⟨w', hrun, r1, r2⟩ := h.drop hs a v ha o.type
  unfold Oper.wp
  simp [execOp, hop, resolve, invoke, builtin, hm, hx, hrun, Result.andThen]
  exact hK' _ _ (hK w' r1 r2)

theorem Tb.ne {w : World} {g k c : Nat} {F : List Nat} {L : List Pr} {e : TypeId} {xs : List Value} (h : Tb w g F c L) (hB : Blk w k e xs) (he : e ≠ 104) : k ∉ F := by
  obtain ⟨q, hG, hM, rfl⟩ := h.ex
  intro hk
  rcases List.mem_cons.1 hk with hk | hk
  · exact hB.ne hG he hk
  · exact hM.ne hB hk

set_option maxHeartbeats 2000000 in
set_option maxRecDepth 100000 in
theorem Do_c (w : World) (g : Nat) (F : List Nat) (c : Nat) (L : List Pr) (h : Tb w g F c L) (e : Ent) (hd : e.data.size ≤ 1000000) (hc : c < 1000000) :
    Calls Tryz.prog 72 #[.pointer (some ⟨g, 0, none⟩), ev e] w fun x w' => x = .returned (.bool (did e)) ∧ TW w w' g F (c + 1) (doo L e) := by
  have B0 := Lib.hid ((Below.refl w.heap.size w).alloc (Nat.le_refl _) (.cells #[.int .i64 e.fr, .int .i64 e.boot, .int .i64 e.seq, .int .i64 e.ord, .int .i64 e.lev, .int .i64 e.stamp, .string e.data] 93))
  have K0 := Lib.hid (Blk.newEnt w 93 e)
  have T0 := Lib.hid (h.past B0.out)
  have S0 := Lib.hid h
  have HC := Lib.hid hc
  have HD := Lib.hid hd
  clear h hc hd
  cases hw : word e.data with
  | none =>
    have HV := Lib.hid (wordV_none hw)
    have HDid := Lib.hid (show did e = false by unfold did; rw [hw]; rfl)
    have HDoo := Lib.hid (show doo L e = L by unfold doo; rw [hw])
    clear hw
    show Calls _ _ #[_, .agg #[.int .i64 e.fr, .int .i64 e.boot, .int .i64 e.seq, .int .i64 e.ord, .int .i64 e.lev, .int .i64 e.stamp, .string e.data]] _ _
    go_enter Tryz.func72, Tryz.ntmps72
    go_wp2_with fail
    generalize (w.alloc (.cells #[.int .i64 e.fr, .int .i64 e.boot, .int .i64 e.seq, .int .i64 e.ord, .int .i64 e.lev, .int .i64 e.stamp, .string e.data] 93)) = w1 at *
    refine (Word_c e.data w1 HD.out).mono ?_
    rw [HV.out]
    rintro x w2 ⟨rfl, b2⟩
    have B2 := Lib.hid (B0.out.trans (b2.mono B0.out.size))
    clear b2
    go_wp2_with fail
    go_ret
    exact ⟨by rw [HDid.out]; rfl, by rw [HDoo.out]; exact TW.same (S0.out.mono (by omega)) B2.out⟩
  | some p =>
    obtain ⟨a, b⟩ := p
    obtain ⟨hz1, hz2⟩ := word_size hw
    have HV := Lib.hid (wordV_some hw)
    cases hm : PEnt.may e
    · have HDid := Lib.hid (show did e = false by unfold did; rw [hw, hm]; rfl)
      have HDoo := Lib.hid (show doo L e = L by unfold doo; rw [hw, hm]; rfl)
      have HM := Lib.hid hm
      clear hw hm
      show Calls _ _ #[_, .agg #[.int .i64 e.fr, .int .i64 e.boot, .int .i64 e.seq, .int .i64 e.ord, .int .i64 e.lev, .int .i64 e.stamp, .string e.data]] _ _
      go_enter Tryz.func72, Tryz.ntmps72
      go_wp2_with fail
      generalize (w.alloc (.cells #[.int .i64 e.fr, .int .i64 e.boot, .int .i64 e.seq, .int .i64 e.ord, .int .i64 e.lev, .int .i64 e.stamp, .string e.data] 93)) = w1 at *
      refine (Word_c e.data w1 HD.out).mono ?_
      rw [HV.out]
      rintro x w2 ⟨rfl, b2⟩
      have B2 := Lib.hid (B0.out.trans (b2.mono B0.out.size))
      have K2 := Lib.hid (K0.out.past b2)
      clear b2
      have e0 := K2.out.cell (i := 0) rfl
      have e1 := K2.out.cell (i := 1) rfl
      have e2 := K2.out.cell (i := 2) rfl
      have e3 := K2.out.cell (i := 3) rfl
      have e4 := K2.out.cell (i := 4) rfl
      have e5 := K2.out.cell (i := 5) rfl
      have e6 := K2.out.cell (i := 6) rfl
      go_wp2_with fail
      clear e0 e1 e2 e3 e4 e5 e6
      refine (show Calls Tryz.prog _ #[.agg #[.int .i64 e.fr, .int .i64 e.boot, .int .i64 e.seq, .int .i64 e.ord, .int .i64 e.lev, .int .i64 e.stamp, .string e.data]] w2 _ from May_c w2 e).mono ?_
      rw [HM.out]
      rintro x w3 ⟨rfl, b3⟩
      have B3 := Lib.hid (B2.out.trans (b3.mono B2.out.size))
      clear b3
      go_wp2_with fail
      go_ret
      exact ⟨by rw [HDid.out]; rfl, by rw [HDoo.out]; exact TW.same (S0.out.mono (by omega)) B3.out⟩
    · have HDid := Lib.hid (show did e = true by unfold did; rw [hw, hm]; rfl)
      have HDoo := Lib.hid (show doo L e = ins a b L (decide (b.size = 0)) by unfold doo; rw [hw]; simp only [hm, if_true])
      have HM := Lib.hid hm
      have hsz := ((PEnt.may_iff e).1 hm).2.2.2.2.2.2
      have HZ := Lib.hid (show a.size + b.size ≤ 16 by omega)
      have HBN := Lib.hid (toList_nil_iff b)
      clear hw hm hz1 hz2
      show Calls _ _ #[_, .agg #[.int .i64 e.fr, .int .i64 e.boot, .int .i64 e.seq, .int .i64 e.ord, .int .i64 e.lev, .int .i64 e.stamp, .string e.data]] _ _
      go_enter Tryz.func72, Tryz.ntmps72
      go_wp2_with fail
      generalize (w.alloc (.cells #[.int .i64 e.fr, .int .i64 e.boot, .int .i64 e.seq, .int .i64 e.ord, .int .i64 e.lev, .int .i64 e.stamp, .string e.data] 93)) = w1 at *
      refine (Word_c e.data w1 HD.out).mono ?_
      rw [HV.out]
      rintro x w2 ⟨rfl, b2⟩
      have B2 := Lib.hid (B0.out.trans (b2.mono B0.out.size))
      have K2 := Lib.hid (K0.out.past b2)
      have T2 := Lib.hid (T0.out.past b2)
      clear b2
      have e0 := K2.out.cell (i := 0) rfl
      have e1 := K2.out.cell (i := 1) rfl
      have e2 := K2.out.cell (i := 2) rfl
      have e3 := K2.out.cell (i := 3) rfl
      have e4 := K2.out.cell (i := 4) rfl
      have e5 := K2.out.cell (i := 5) rfl
      have e6 := K2.out.cell (i := 6) rfl
      go_wp2_with fail
      clear e0 e1 e2 e3 e4 e5 e6
      refine (show Calls Tryz.prog _ #[.agg #[.int .i64 e.fr, .int .i64 e.boot, .int .i64 e.seq, .int .i64 e.ord, .int .i64 e.lev, .int .i64 e.stamp, .string e.data]] w2 _ from May_c w2 e).mono ?_
      rw [HM.out]
      rintro x w3 ⟨rfl, b3⟩
      have B3 := Lib.hid (B2.out.trans (b3.mono B2.out.size))
      have T3 := Lib.hid (T2.out.past b3)
      clear b3 T2 T0 K2 K0
      by_cases hb : b.size = 0
      · have hn : (b.toList == []) = true := by rw [HBN.out]; exact decide_eq_true hb
        have HD2 := Lib.hid (show decide (b.size = 0) = true from decide_eq_true hb)
        obtain ⟨q, hB, hM, hF⟩ := T3.out.ex
        have HF := Lib.hid hF
        have d0 := hB.cell (i := 0) rfl
        have HB := Lib.hid hB
        have HMq := Lib.hid hM
        clear hB hM hF hb
        go_wp2_with (at_delete; refine wpList_dropT rfl (.tmp 31) (.tmp 32) rfl HMq.out T3.out.ok.srt a b (by have := HZ.out; unfold maxLen; omega) rfl rfl ?_)
        intro w4 m4 t4
        go_wp2_with fail
        go_ret
        refine ⟨by rw [HDid.out]; rfl, ?_⟩
        rw [HDoo.out, HD2.out]
        refine ⟨⟨F, ⟨⟨q, HB.out.touch t4 (HMq.out.ne HB.out), m4.mono (by omega), HF.out⟩, ins_ok T3.out.ok HZ.out (fun h => by cases h)⟩, fun k hk => .inl hk⟩, ?_⟩
        exact (Touch.of_below B3.out).trans (t4.wide (fun k hk => by rw [HF.out]; exact List.mem_cons_of_mem _ hk))
      · have hn : (b.toList == []) = false := by rw [HBN.out]; exact decide_eq_false hb
        have HD2 := Lib.hid (show decide (b.size = 0) = false from decide_eq_false hb)
        go_wp2_with fail
        refine (put_c w3 g F c L T3.out a b HZ.out hb HC.out).mono ?_
        rintro x w4 ⟨rfl, t4⟩
        go_wp2_with fail
        go_ret
        exact ⟨by rw [HDid.out]; rfl, by rw [HDoo.out, HD2.out]; exact t4.behind B3.out⟩
end Go.Proofs.YtacipjdaiglnjaaGreatDoor

/- 'append' onto a slice that may begin behind its block's head: where it lies then; what is left behind a cut at its front. No program is named here. -/
namespace Go.Proofs.YtacipjdaiglnjaaGreatDoor
open Go.RowKit

section
variable {P : Program}
/-- 'append' onto it, and where it lies then. -/
theorem wpList_appO2 {w : World} {ops : Array Oper} {rest : List Oper} {o : Oper} {a : Act} {Q : Exit → Act → World → Prop} (hgd : o.guard = none) (s x : Operand) (t : TypeId)
    (ho : o.op = .call { callee := .builtin .append, args := #[s, x], argTypes := #[t, t] })
    (base : Nat) (e : TypeId) (z : Value) (k bytes : Nat) (ht : P.underlying t = some (.slice e)) (hi : (P.info? e).map (fun i => (i.zero, i.size, i.bytes)) = some (some z, k, bytes)) (hzs : z.cells.size = k) (hk0 : 0 < k)
    (A : Option Addr) (n c : Nat) (xs : List Value) (hs : a.eval s = .slice A n c) (hown : Og w base e k A n c xs)
    (B : Nat) (X : Option Addr) (cx m : Nat) (news : List Value) (hx : a.eval x = .slice X m cx) (hr : Rd w B X cx k m news) (hm : 0 < m) (h1 : ∀ u ∈ news, u.oneCell' = true)
    (h63 : n + m ≤ maxLen) (hbytes : (n + m) * bytes ≤ 140737488355328) (hbase : base ≤ w.heap.size)
    (h : ∀ A' c' w', Og w' base e k A' (n + m) c' (xs ++ news) → Touch (bl A) w w' → (∀ g, bk A' = some g → bk A = some g ∨ w.heap.size ≤ g) → wpList P ops Q rest (a.put o.dst (.slice A' (n + m) c')) w') : wpList P ops Q (o :: rest) a w := by
  obtain ⟨i, hi0, hz, hk, hby⟩ := info_parts hi
  obtain ⟨bx, ox, rfl, _, hc⟩ := hr.2.2.2.2 (Nat.mul_pos hm hk0)
  have hnews : ∀ j u, news[j]? = Option.some u → w.cell? ((⟨bx, ox, none⟩ : Addr).add j) = Option.some u := fun j u hu => by rw [add_zero_spot]; exact hc j u hu
  have hl := hown.1
  have hnl := hr.1
  rcases hown.2 with ⟨rfl, rfl, rfl⟩ | ⟨g, Y, Z, rfl, hb, hB, hn, hcm, hfit⟩
  · have hx0 : xs = [] := List.eq_nil_of_length_eq_zero (by simpa using hl)
    subst hx0
    refine wpList_append_grows w hgd s x t ho e i z k bytes ht hi0 hz hk hby hzs hk0 none 0 0 [] hs (fun _ => ⟨rfl, rfl⟩) (by simp) (fun _ h => by cases h) ⟨bx, ox, none⟩ m cx news hx hnl hnews h1 (by omega) h63 hbytes ?_
    intro v' w' h2 h3
    obtain ⟨A', c', rfl⟩ := own_slice h2
    exact h A' c' w' ((Og.of_ow (Ow.of_own h2)).down hbase) ⟨h3.os, h3.tape, h3.output, h3.size, fun k hk _ => h3.block k hk (by simp)⟩ (fun g hg => .inr ((Ow.of_own h2).low g hg))
  · have hcell : ∀ j u, (xs ++ Z)[j]? = Option.some u → w.cell? ⟨g, Y.length + j, none⟩ = Option.some u := fun j u hj => hB.cell (by
      rw [List.getElem?_append_right (by omega), show Y.length + j - Y.length = j by omega]; exact hj)
    refine wpList_append_arg w hgd s x t ho e i z k bytes ht hi0 hz hk hby hzs hk0 g Y.length n c xs hs hl (fun j u hj => hcell j u (by rw [List.getElem?_append_left (List.getElem?_eq_some_iff.1 hj).1]; exact hj)) ⟨bx, ox, none⟩ m cx news hx hnl hnews h1 ?_ h63 hbytes ?_ ?_
    · intro hroom j hj
      have hfit2 : n * k + news.length ≤ (xs ++ Z).length := by
        rw [hnl, ← Nat.add_mul]; exact Nat.le_trans (Nat.mul_le_mul_right k hroom) hfit
      rw [Nat.add_assoc]
      refine ⟨?_, hB.free _⟩
      rw [hcell (n * k + j) _ (List.getElem?_eq_getElem (show n * k + j < (xs ++ Z).length by omega))]; rfl
    · intro hroom
      have hfit2 : n * k + news.length ≤ (xs ++ Z).length := by
        rw [hnl, ← Nat.add_mul]; exact Nat.le_trans (Nat.mul_le_mul_right k hroom) hfit
      have hz1 : news.length ≤ Z.length := by rw [List.length_append, hl] at hfit2; omega
      have hB1 : Blk w g e ((Y ++ xs) ++ (Z.take news.length ++ Z.drop news.length)) := by rw [List.take_append_drop, List.append_assoc]; exact hB
      have hB2 := hB1.cells news (by rw [List.length_take, Nat.min_eq_left hz1])
      have hlen : (Y ++ xs).length = Y.length + n * k := by rw [List.length_append, hl]
      rw [hlen] at hB2
      refine h _ _ _ ⟨by rw [List.length_append, hl, hnl, Nat.add_mul], .inr ⟨g, Y, Z.drop news.length, rfl, hb, by simpa using hB2, hroom, hcm, ?_⟩⟩ ((grown_cells w g news _).wide (by simp [bl, bk])) (fun g hg => .inl hg)
      simp only [List.length_append, List.length_drop] at hfit ⊢
      omega
    · intro hgr v' w' h2 h3
      obtain ⟨A', c', rfl⟩ := own_slice h2
      exact h A' c' w' ((Og.of_ow (Ow.of_own h2)).down hbase) ⟨h3.os, h3.tape, h3.output, h3.size, fun k hk _ => h3.block k hk (by simp)⟩ (fun g hg => .inr ((Ow.of_own h2).low g hg))
end
section
variable {w w' : World} {base k n c g i : Nat} {e : TypeId} {A : Option Addr} {xs : List Value} {S : List Nat}
/-- 'l[j:]', any j. -/
theorem Og.cutTail (h : Og w base e k A n c xs) {j : Nat} (hj : j ≤ n) : Og w base e k (if c = j then A else A.map (·.add (j * k))) (n - j) (c - j) (xs.drop (j * k)) := by
  have hl := h.1
  have hjk : j * k ≤ n * k := Nat.mul_le_mul_right k hj
  have hlen : (xs.drop (j * k)).length = (n - j) * k := by rw [List.length_drop, hl, Nat.sub_mul]
  refine ⟨hlen, ?_⟩
  rcases h.2 with ⟨h0, h1, h2⟩ | ⟨g, Y, Z, hA, hb, hB, hnc, hc, hz⟩
  · refine .inl ⟨?_, by omega, by omega⟩
    rw [if_pos (by omega)]; exact h0
  · by_cases hcj : c = j
    · rw [if_pos hcj]
      have hx : xs.drop (j * k) = [] := List.eq_nil_of_length_eq_zero (by rw [hlen, show n - j = 0 by omega, Nat.zero_mul])
      refine .inr ⟨g, Y, xs ++ Z, hA, hb, ?_, by omega, by omega, ?_⟩
      · rw [hx, List.nil_append]; exact hB
      · rw [hcj, Nat.sub_self, Nat.zero_mul]; omega
    · rw [if_neg hcj]
      refine .inr ⟨g, Y ++ xs.take (j * k), Z, ?_, hb, ?_, by omega, by omega, ?_⟩
      · rw [hA, List.length_append, List.length_take, Nat.min_eq_left (by omega), Option.map_some, add_zero_spot]
      · rw [List.append_assoc, ← List.append_assoc (xs.take (j * k)), List.take_append_drop]; exact hB
      · rw [List.length_append] at hz ⊢
        rw [List.length_drop, Nat.sub_mul]
        omega
theorem bk_cutTail {j : Nat} : bk (if c = j then A else A.map (·.add (j * k))) = bk A := by
  split
  · rfl
  · rcases A with _ | ⟨b, o, s⟩
    · rfl
    · cases s <;> simp [bk, Addr.add] <;> split <;> rfl
end
theorem Rd.headN {w : World} {B : Nat} {A : Option Addr} {c k n m : Nat} {xs : List Value} (h : Rd w B A c k n xs) (hm : m ≤ n) : Rd w B A c k m (xs.take (m * k)) := by
  refine ⟨?_, Nat.le_trans hm h.2.1, h.2.2.1, h.2.2.2.1, fun hp => ?_⟩
  · rw [List.length_take, h.1]
    exact Nat.min_eq_left (Nat.mul_le_mul_right k hm)
  · obtain ⟨b, o, e1, e2, e3⟩ := h.2.2.2.2 (Nat.lt_of_lt_of_le hp (Nat.mul_le_mul_right k hm))
    refine ⟨b, o, e1, e2, fun j u hu => e3 j u ?_⟩
    rw [List.getElem?_take] at hu
    split at hu
    · exact hu
    · cases hu
/-- 's[l:]' with its address under a name. -/
theorem wpList_cutX {P : Program} {w : World} {ops : Array Oper} {rest : List Oper} {o : Oper} {a : Act} {Q : Exit → Act → World → Prop} (hgd : o.guard = none) (t : TypeId) (x lo : Operand) (ho : o.op = .slice t x (some lo) none none)
    (e : TypeId) (z : Option Value) (k bytes : Nat) (ht : P.underlying t = some (.slice e)) (hi : (P.info? e).map (fun i => (i.zero, i.size, i.bytes)) = some (z, k, bytes))
    (A X : Option Addr) (c n l : Nat) (hx : a.eval x = .slice A n c) (hlo : a.eval lo = .int .i64 l) (h1 : l ≤ n) (h2 : n ≤ c) (hX : (if c = l then A else A.map (·.add (l * k))) = X)
    (h : wpList P ops Q rest (a.put o.dst (.slice X (n - l) (c - l))) w) : wpList P ops Q (o :: rest) a w := by
  refine wpList_plain hgd fun K hK => ?_
  have hrun := run_cut (P := P) (w := w) t e ht hi A n c (some (.int .i64 l)) none .i64 .i64 l n (.inr rfl) (.inl ⟨rfl, rfl⟩) h1 h2
  rw [hX] at hrun
  unfold Oper.wp execOp
  simp only [ho, hx, hlo, Option.map_none, Option.map_some, Sem.run_bind, hrun, Result.andThen_ok, Sem.run_pure]
  exact hK _ _ h
end Go.Proofs.YtacipjdaiglnjaaGreatDoor

/- A process tells what may be told (settle), whatever its log is. -/
namespace Go.Proofs.YtacipjdaiglnjaaGreatDoor
open Go.RowKit PNode

namespace PNode
/-- What the table makes of one that was told. -/
def tabOne (tb : List PTab.Pr) (t : PReady.Tl) : List PTab.Pr := if (t.2.ord == 1 && t.2.lev != 0) = true then PTab.doo tb t.2 else tb
def tabs (tb : List PTab.Pr) (ts : List PReady.Tl) : List PTab.Pr := ts.foldl tabOne tb
/-- What is told now. -/
def newT (p : Np) : List PReady.Tl := PReady.go p.com p.clock p.T p.L
/-- While it tells G, k of them done. -/
def mid (p : Np) (K : Nat) (G : List PReady.Tl) (k : Nat) : Np := { p with pend := PPend.left (p.L.take K) p.pend, T := p.T ++ G, tab := tabs p.tab (G.take k) }
/-- Behind it. -/
def setP (p : Np) : Np := { p with pend := PPend.left (p.L.take p.com.toNat) p.pend, T := p.T ++ newT p, tab := tabs p.tab (newT p) }
theorem tabs_next {tb : List PTab.Pr} {ts : List PReady.Tl} {i : Nat} {t : PReady.Tl} (h : ts[i]? = some t) : tabs tb (ts.take (i + 1)) = tabOne (tabs tb (ts.take i)) t := by
  unfold tabs
  rw [List.take_add_one, h, Option.toList_some, List.foldl_append]
  rfl
theorem ok_apart {L : List Ent} (h : PLog.okN [] L = true) : PReady.Apart L := by
  rw [PReady.Apart, List.pairwise_iff_getElem]
  intro i j hi hj hij
  have := PLog.ok_twin h (List.getElem?_eq_getElem hj) (List.getElem?_eq_getElem hi) hij
  rw [PReady.same_comm]
  exact this
end PNode
theorem Ow.down0 {w : World} {base : Nat} {e : TypeId} {k n c : Nat} {A : Option Addr} {xs : List Value} (h : Ow w base e k A n c xs) : Ow w 0 e k A n c xs := h.down (Nat.zero_le _)
theorem Qu.off {w : World} {g k : Nat} {F : List Nat} {T : List PReady.Tl} {t : TypeId} {ys : List Value} (h : Qu w g F T) (hB : Blk w k t ys) (h1 : t ≠ 135) (h2 : t ≠ 95) : k ∉ F := by
  obtain ⟨A, c, q, hB0, hO, hM, rfl⟩ := h.ex
  intro hk
  rcases List.mem_cons.1 hk with rfl | hk
  · exact hB.ne hB0 h1 rfl
  · rcases List.mem_append.1 hk with hk | hk
    · obtain ⟨ys', hy⟩ := hO.blk (mem_bl.1 hk)
      exact hB.ne hy h2 rfl
    · exact hM.ne hB hk
theorem From_all {w : World} {g : Nat} {F : List Nat} {L : List Ent} (h : Lg w g F L) :
    Calls Tryz.prog 38 #[.pointer (some ⟨g, 0, none⟩), .int .i64 0] w fun x w' => ∃ A' c', x = .returned (.slice A' L.length c') ∧ Ow w' w.heap.size 93 7 A' L.length c' (els L) ∧ Below w.heap.size w w' := by
  have := From_in w g F L h 0 (Nat.zero_le _)
  simp only [Nat.sub_zero, List.drop_zero] at this
  exact this.mono fun e w' ⟨A, c, h1, h2, h3⟩ => ⟨A, c, h1, Ow.of_own h2, h3⟩

set_option maxHeartbeats 16000000 in
set_option maxRecDepth 100000 in
theorem settle_c {w : World} {x d : Nat} {F : List Nat} {p : Np} (h : Nd w x d F p) (hok : PLog.okN [] p.L = true) (hT : p.T.length ≤ 999900) :
    Calls Tryz.prog 31 #[.pointer (some ⟨x, 0, none⟩)] w fun e w' => e = .returned (.tuple #[]) ∧ NdW w w' x d F (setP p) := by
  obtain ⟨a, s0, hr⟩ := h.open
  have HR := Lib.hid hr
  obtain ⟨K, hK⟩ : ∃ K : Nat, p.com = (K : Int) := ⟨p.com.toNat, by have := hr.com.1; omega⟩
  have hKL : K ≤ p.L.length := by have := hr.com.2; omega
  have hp : ({ p with com := (K : Int) } : Np) = p := by cases p; simp only at hK; rw [hK]
  clear h hr
  have B0 : Blk w x 79 (ncs d p a) := s0.sep.get (i := 0) rfl
  have L0 : Lg w a.lg a.FL p.L := s0.sep.get (i := 2) rfl
  have c9 : w.cell? ⟨x, 9, none⟩ = some (.pointer (some ⟨a.lg, 0, none⟩)) := B0.cell rfl
  have S0 := Lib.hid s0
  have HP := Lib.hid hp
  have HKL := Lib.hid hKL
  have HLE := Lib.hid L0.le
  have hmay := PLog.okN_may _ _ hok
  have HFT := Lib.hid (show ∀ e ∈ p.L, PEnt.Fit e from fun e he => ((PEnt.may_iff e).1 (hmay e he)).fit)
  have HDS := Lib.hid (show ∀ e ∈ p.L, e.data.size ≤ 16 from fun e he => ((PEnt.may_iff e).1 (hmay e he)).2.2.2.2.2.2)
  have HPW := Lib.hid (ok_apart hok)
  have HTL := Lib.hid (show p.T.length + p.L.length ≤ 1000000 by have := L0.le; omega)
  have HK0 := Lib.hid hK
  clear s0 B0 hK hp hKL hmay hok hT
  go_enter Tryz.func31, Tryz.ntmps31
  go_wp2_with fail
  refine (From_all L0).mono ?_
  rintro e w1 ⟨A, c, rfl, o1, b1⟩
  have S1 := Lib.hid (S0.out.past b1)
  have HB1 : Blk w1 x 79 (ncs d { p with com := (K : Int) } a) := by rw [HP.out]; exact S1.out.sep.get (i := 0) rfl
  have B1 := Lib.hid HB1
  have hN1 : Pn w1.drew a.ng p.id p.boot p.seq p.pend := S1.out.drew.sep.get (i := 8) rfl
  have N1 := Lib.hid hN1
  have hx : x ∉ [a.ng] := S1.out.sep.two (i := 0) (j := 8) (by omega) rfl rfl x (by simp [pX])
  have HX := Lib.hid hx
  have o1d := o1.past (Below.refl _ _).drew
  have O1' := Lib.hid o1d
  have hcap := o1d.rd.le
  have HKC := Lib.hid (show K ≤ c from Nat.le_trans HKL.out hcap)
  have O1 := Lib.hid (show Rd w1.drew w1.drew.heap.size A c 7 K (els (p.L.take K)) by rw [← els_take]; exact o1d.rd.headN HKL.out)
  have ho : ∀ k ∈ [a.ng], bk A ≠ some k := fun k hk => by
    obtain ⟨ys, hy⟩ := hN1.blk
    rw [List.mem_singleton.1 hk]
    exact o1d.ne hy (by decide)
  have HO := Lib.hid ho
  clear c9 L0 b1 HB1 hN1 hx o1 o1d ho hcap
  go_wp2_with fail
-- REGION (*curfew/node.Node).settle 1 ngset1 2
  refine Hs.begin ([a.ng]) ?_
  refine Hs.take (v := .pointer (some ⟨x, 0, none⟩)) 0 10 rfl ?_ (fun _ _ => rfl)
  refine Hs.take (v := .pointer (some ⟨x, 0, none⟩)) 1 11 rfl ?_ (fun w' hw' => by go_simp; first | done | rfl | (simp; omega))
  refine Hs.take (v := .pointer (some ⟨x, 17, none⟩)) 2 12 rfl ?_ (fun w' hw' => by go_simp; first | done | rfl | (simp; omega))
  refine Hs.take (v := .pointer (some ⟨a.ng, 0, none⟩)) 3 13 rfl ?_ (fun w' hw' => by exact ldPend (Blk.cell (i := 17) (Blk.touch (show Blk w1.drew x 79 (ncs d { p with com := (K : Int) } a) from B1.out) hw' HX.out) rfl) rfl)
  refine Hs.take (v := .slice A p.L.length c) 4 14 rfl ?_ (fun _ _ => rfl)
  refine Hs.take (v := .pointer (some ⟨x, 0, none⟩)) 5 15 rfl ?_ (fun _ _ => rfl)
  refine Hs.take (v := .pointer (some ⟨x, 0, none⟩)) 6 16 rfl ?_ (fun w' hw' => by go_simp; first | done | rfl | (simp; omega))
  refine Hs.take (v := .pointer (some ⟨x, 10, none⟩)) 7 17 rfl ?_ (fun w' hw' => by go_simp; first | done | rfl | (simp; omega))
  refine Hs.take (v := .int .i64 (K : Int)) 8 18 rfl ?_ (fun w' hw' => by exact ldInt (Blk.cell (i := 10) (Blk.touch (show Blk w1.drew x 79 (ncs d { p with com := (K : Int) } a) from B1.out) hw' HX.out) rfl) rfl)
  refine Hs.only 9 (some 19) rfl ?_
  refine wpList_headS rfl 29 _ _ rfl 93 _ 7 _ Tryz.underlying29 ent_info A c p.L.length K rfl rfl HKC.out ?_
  refine Hs.next (Touch.refl _ _) ?_
  refine Hs.call (f := 70) (args := #[.pointer (some ⟨a.ng, 0, none⟩), .slice A K c]) 10 20 rfl ?_ (run_callf Tryz.func70 (by kernel_rfl) (by kernel_rfl) (by simp only [List.map_toArray, List.map_cons, List.map_nil]; rfl))
  refine (pdone_c w1.drew a.ng p.id p.boot p.seq p.pend N1.out A c K (p.L.take K) O1.out (fun _ => HO.out _ (by simp))).mono ?_
  rintro e w2 ⟨rfl, N2, T2⟩
  have S2 := Lib.hid (S1.out.drew.set 8 rfl (pN_ok { p with pend := PPend.left (p.L.take K) p.pend } a) T2 (show Pn w2 a.ng p.id p.boot p.seq (PPend.left (p.L.take K) p.pend) from N2) (fun k hk => .inl hk))
  have O2 := Lib.hid (O1'.out.touch T2 HO.out)
  clear N2
  refine Hs.back T2 ?_
  refine Hs.done ?_
-- END
  have hx2 : x ∉ a.FR := S2.out.sep.two (i := 0) (j := 9) (by omega) rfl rfl x (by simp [pX])
  have HX2 := Lib.hid hx2
  have HB2 : Blk w2 x 79 (ncs d { p with com := (K : Int) } a) := by rw [HP.out]; exact S2.out.sep.get (i := 0) rfl
  have B2 := Lib.hid HB2
  have hR2 : Qu w2.drew a.rg a.FR p.T := S2.out.drew.sep.get (i := 9) rfl
  have R2 := Lib.hid hR2
  have Q2 := Lib.hid (O2.out.past (Below.refl _ _).drew).rd
  have HO2 := Lib.hid (show ∀ k ∈ a.FR, bk A ≠ some k from fun k hk hA => by
    obtain ⟨ys, hy⟩ := (O2.out.past (Below.refl _ _).drew).blk hA
    exact hR2.off hy (by decide) (by decide) hk)
  obtain ⟨G, hG⟩ : ∃ G, PReady.go (K : Int) p.clock p.T p.L = G := ⟨_, rfl⟩
  have HG := Lib.hid hG
  have HTB : Hid (Tb w2.drew a.bg a.FB a.bc p.tab ∧ a.bc ≤ p.T.length) := Lib.hid (S2.out.drew.sep.get (i := 10) rfl)
  clear hx2 HB2 hR2 hG
  go_wp2_with fail
-- REGION (*curfew/node.Node).settle 2 ngset2 2
  refine Hs.begin (a.FR) ?_
  refine Hs.take (v := .pointer (some ⟨x, 0, none⟩)) 0 21 rfl ?_ (fun _ _ => rfl)
  refine Hs.take (v := .pointer (some ⟨x, 0, none⟩)) 1 22 rfl ?_ (fun w' hw' => by go_simp; first | done | rfl | (simp; omega))
  refine Hs.take (v := .pointer (some ⟨x, 18, none⟩)) 2 23 rfl ?_ (fun w' hw' => by go_simp; first | done | rfl | (simp; omega))
  refine Hs.take (v := .pointer (some ⟨a.rg, 0, none⟩)) 3 24 rfl ?_ (fun w' hw' => by exact ldQueue (Blk.cell (i := 18) (Blk.touch (show Blk w2.drew x 79 (ncs d { p with com := (K : Int) } a) from B2.out) hw' HX2.out) rfl) rfl)
  refine Hs.take (v := .slice A p.L.length c) 4 25 rfl ?_ (fun _ _ => rfl)
  refine Hs.take (v := .pointer (some ⟨x, 0, none⟩)) 5 26 rfl ?_ (fun _ _ => rfl)
  refine Hs.take (v := .pointer (some ⟨x, 0, none⟩)) 6 27 rfl ?_ (fun w' hw' => by go_simp; first | done | rfl | (simp; omega))
  refine Hs.take (v := .pointer (some ⟨x, 10, none⟩)) 7 28 rfl ?_ (fun w' hw' => by go_simp; first | done | rfl | (simp; omega))
  refine Hs.take (v := .int .i64 (K : Int)) 8 29 rfl ?_ (fun w' hw' => by exact ldInt (Blk.cell (i := 10) (Blk.touch (show Blk w2.drew x 79 (ncs d { p with com := (K : Int) } a) from B2.out) hw' HX2.out) rfl) rfl)
  refine Hs.take (v := .pointer (some ⟨x, 0, none⟩)) 9 30 rfl ?_ (fun _ _ => rfl)
  refine Hs.take (v := .pointer (some ⟨x, 0, none⟩)) 10 31 rfl ?_ (fun w' hw' => by go_simp; first | done | rfl | (simp; omega))
  refine Hs.take (v := .pointer (some ⟨x, 4, none⟩)) 11 32 rfl ?_ (fun w' hw' => by go_simp; first | done | rfl | (simp; omega))
  refine Hs.take (v := .int .i64 p.clock) 12 33 rfl ?_ (fun w' hw' => by exact ldI64 (Blk.cell (i := 4) (Blk.touch (show Blk w2.drew x 79 (ncs d { p with com := (K : Int) } a) from B2.out) hw' HX2.out) rfl) rfl)
  refine Hs.take (v := .int .i64 0) 15 36 rfl ?_ (fun _ _ => rfl)
  refine Hs.call (f := 71) (args := #[.pointer (some ⟨a.rg, 0, none⟩), .slice A p.L.length c, .int .i64 (K : Int), .int .i64 p.clock]) 13 34 rfl ?_ (run_callf Tryz.func71 (by kernel_rfl) (by kernel_rfl) (by simp only [List.map_toArray, List.map_cons, List.map_nil]; rfl))
  refine (Go_c w2.drew a.rg a.FR p.T R2.out A c p.L.length p.L Q2.out (fun _ => HO2.out) HFT.out HPW.out HLE.out HTL.out K p.clock).mono ?_
  rw [HG.out]
  rintro e w3 ⟨A3, c3, rfl, o3, ⟨F3, q3, hF3⟩, T3⟩
  have S3a := Lib.hid (S2.out.drew.set 9 rfl (pR_ok { p with T := p.T ++ G } { a with FR := F3 }) T3 (show Qu w3 a.rg F3 (p.T ++ G) from q3) hF3)
  have O3 := Lib.hid (Ow.of_own o3).down0
  clear q3 hF3 o3
  refine Hs.back T3 ?_
  refine Hs.take 14 35 rfl ?_ (fun w' hw' => by go_simp; first | done | rfl)
  refine Hs.done ?_
-- END
  have HS3 : Hid (St okN w w3 F (parts x d { p with pend := PPend.left (p.L.take K) p.pend, T := p.T ++ G } { a with FR := F3 })) := Lib.hid (by
    have h10 : Tb w3 a.bg a.FB a.bc p.tab ∧ a.bc ≤ p.T.length := S3a.out.sep.get (i := 10) rfl
    exact S3a.out.set 10 rfl (pB_ok { p with T := p.T ++ G } a) (.refl _ _) ⟨h10.1, by rw [List.length_append]; exact Nat.le_trans h10.2 (Nat.le_add_right _ _)⟩ (fun k hk => .inl hk))
  have HGM := Lib.hid (show ∀ t ∈ G, t.2 ∈ p.L from fun t ht => PReady.go_mem (by rw [HG.out]; exact ht))
  have HGL := Lib.hid (show p.T.length + G.length ≤ 1000000 from by
    have h9 : Qu w3 a.rg F3 (p.T ++ G) := HS3.out.sep.get (i := 9) rfl
    have := h9.le
    rwa [List.length_append] at this)
  have HMP := Lib.hid (show ∀ k, mid p K G k = mid p K G k from fun _ => rfl)
  have SA : Hid (St okN w w3 F (parts x d (mid p K G 0) { a with FR := F3 })) := Lib.hid HS3.out
  have TA : Hid (({ a with FR := F3 } : Na).bc ≤ p.T.length + 0 ∧ Tb w3 ({ a with FR := F3 } : Na).bg ({ a with FR := F3 } : Na).FB ({ a with FR := F3 } : Na).bc (tabs p.tab (G.take 0))) := Lib.hid (by
    have h10 : Tb w3 a.bg a.FB a.bc p.tab ∧ a.bc ≤ p.T.length := S3a.out.sep.get (i := 10) rfl
    exact ⟨h10.2, h10.1⟩)
  have hgb : G.length ≤ 1000000 := by have := HGL.out; omega
  clear S3a HS3 HTB S1 S2 S0 B1 B2 N1 R2 Q2 O1 O1' O2 HX HX2 HO HO2 HMP HFT HPW T2 T3
  go_wp2_with fail
  go_loopw [36] (fun s36 wr => ∃ (k : Nat) (a' : Na), s36 = .int .i64 (k : Int) ∧ k ≤ G.length ∧ Hid (a'.bc ≤ p.T.length + k ∧ Tb wr a'.bg a'.FB a'.bc (tabs p.tab (G.take k))) ∧ Hid (St okN w wr F (parts x d (mid p K G k) a')) ∧ Hid (Ow wr 0 95 8 A3 G.length c3 (tls G))) (fun s36 _ => (G.length - intOf s36).toNat)
  case atStart => exact ⟨0, { a with FR := F3 }, rfl, Nat.zero_le _, TA, SA, O3⟩
  case round =>
    obtain ⟨k, a', rfl, hk, TR, SR, OR⟩ := hrel
    clear SA TA O3
    by_cases hlt : k < G.length
    · obtain ⟨b3, o3, t, hA3, -, ht, htm, hrg⟩ := OR.out.rd.told hlt
      obtain ⟨tp, ⟨fr, bt, sq, od, lv, sp, dt⟩⟩ := t
      subst hA3
      have HRG := Lib.hid (show wr.rangeAt b3 (o3 + k * 8) [.int .i64 tp, .int .i64 fr, .int .i64 bt, .int .i64 sq, .int .i64 od, .int .i64 lv, .int .i64 sp, .string dt] from hrg)
      have HD4 := Lib.hid (HDS.out _ (HGM.out _ htm))
      have HTN := Lib.hid (tabs_next (tb := p.tab) ht)
      have KZ := Lib.hid (Blk.new wr #[.int .i64 0, .int .i64 0, .int .i64 0, .int .i64 0, .int .i64 0, .int .i64 0, .int .i64 0, .string ⟨#[]⟩] 95)
      have K4r := Lib.hid (show Blk ((wr.alloc (.cells #[.int .i64 0, .int .i64 0, .int .i64 0, .int .i64 0, .int .i64 0, .int .i64 0, .int .i64 0, .string ⟨#[]⟩] 95)).setRow wr.heap.size #[.int .i64 tp, .int .i64 fr, .int .i64 bt, .int .i64 sq, .int .i64 od, .int .i64 lv, .int .i64 sp, .string dt]) wr.heap.size 95 (tcs (tp, ⟨fr, bt, sq, od, lv, sp, dt⟩)) from Blk.row KZ.out #[.int .i64 tp, .int .i64 fr, .int .i64 bt, .int .i64 sq, .int .i64 od, .int .i64 lv, .int .i64 sp, .string dt])
      have b4 := Lib.hid (((Below.refl wr.heap.size wr).alloc (Nat.le_refl _) (.cells #[.int .i64 0, .int .i64 0, .int .i64 0, .int .i64 0, .int .i64 0, .int .i64 0, .int .i64 0, .string ⟨#[]⟩] 95)).trans (grown_below (grown_row (wr.alloc (.cells #[.int .i64 0, .int .i64 0, .int .i64 0, .int .i64 0, .int .i64 0, .int .i64 0, .int .i64 0, .string ⟨#[]⟩] 95)) wr.heap.size #[.int .i64 tp, .int .i64 fr, .int .i64 bt, .int .i64 sq, .int .i64 od, .int .i64 lv, .int .i64 sp, .string dt]) (Nat.le_refl _) (by simp)))
      have k4 : ((wr.alloc (.cells #[.int .i64 0, .int .i64 0, .int .i64 0, .int .i64 0, .int .i64 0, .int .i64 0, .int .i64 0, .string ⟨#[]⟩] 95)).setRow wr.heap.size #[.int .i64 tp, .int .i64 fr, .int .i64 bt, .int .i64 sq, .int .i64 od, .int .i64 lv, .int .i64 sp, .string dt]).cell? ⟨wr.heap.size, 4, none⟩ = some (.int .i64 od) := K4r.out.cell rfl
      have k5 : ((wr.alloc (.cells #[.int .i64 0, .int .i64 0, .int .i64 0, .int .i64 0, .int .i64 0, .int .i64 0, .int .i64 0, .string ⟨#[]⟩] 95)).setRow wr.heap.size #[.int .i64 tp, .int .i64 fr, .int .i64 bt, .int .i64 sq, .int .i64 od, .int .i64 lv, .int .i64 sp, .string dt]).cell? ⟨wr.heap.size, 5, none⟩ = some (.int .i64 lv) := K4r.out.cell rfl
      have S4 := Lib.hid (SR.out.past b4.out)
      have O4 := Lib.hid (OR.out.past b4.out)
      have T4 := Lib.hid (show a'.bc ≤ p.T.length + k ∧ Tb ((wr.alloc (.cells #[.int .i64 0, .int .i64 0, .int .i64 0, .int .i64 0, .int .i64 0, .int .i64 0, .int .i64 0, .string ⟨#[]⟩] 95)).setRow wr.heap.size #[.int .i64 tp, .int .i64 fr, .int .i64 bt, .int .i64 sq, .int .i64 od, .int .i64 lv, .int .i64 sp, .string dt]) a'.bg a'.FB a'.bc (tabs p.tab (G.take k)) from ⟨TR.out.1, TR.out.2.past b4.out⟩)
      clear hrg htm ht SR OR TR b4
      by_cases hod : od = 1
      · by_cases hlv : lv = 0
        · subst hod hlv
          have HT5 := Lib.hid (show tabs p.tab (G.take (k + 1)) = tabs p.tab (G.take k) by rw [HTN.out]; rfl)
          go_wp2_with (first | ((with_reducible show wpList _ _ _ ((⟨none, Op.store 95 (.tmp 4) _, _, _, _, _⟩ : Oper) :: _) _ _); go_must (refine wpList_store_row rfl 95 (.tmp 4) (.tmp 39) rfl wr.heap.size _ rfl rfl _ _ KZ.out (by kernel_rfl) (by rfl) (by kernel_rfl) ?_)) | ((with_reducible show wpList _ _ _ ((⟨some 39, Op.load _ _, _, _, _, _⟩ : Oper) :: _) _ _); go_must (refine wpList_load_mid rfl 95 (.tmp 38) rfl b3 (o3 + k * 8) rfl [.int .i64 tp, .int .i64 fr, .int .i64 bt, .int .i64 sq, .int .i64 1, .int .i64 0, .int .i64 sp, .string dt] _ HRG.out Tryz.underlying95 rfl (by kernel_rfl) ?_)))
          clear KZ k4 k5 HRG
          generalize ((wr.alloc (.cells #[.int .i64 0, .int .i64 0, .int .i64 0, .int .i64 0, .int .i64 0, .int .i64 0, .int .i64 0, .string ⟨#[]⟩] 95)).setRow wr.heap.size #[.int .i64 tp, .int .i64 fr, .int .i64 bt, .int .i64 sq, .int .i64 1, .int .i64 0, .int .i64 sp, .string dt]) = w4 at *
          go_roundw
          case rel => exact ⟨k + 1, a', by go_num, by omega, Lib.hid (by rw [HT5.out]; exact ⟨Nat.le_succ_of_le T4.out.1, T4.out.2⟩), Lib.hid (by unfold mid; rw [HT5.out]; exact S4.out), O4⟩
          case measure => simp [intOf]; omega
        · subst hod
          have HT5 := Lib.hid (show tabs p.tab (G.take (k + 1)) = PTab.doo (tabs p.tab (G.take k)) ⟨fr, bt, sq, 1, lv, sp, dt⟩ by
            rw [HTN.out]
            show (if ((1 : Int) == 1 && lv != 0) = true then _ else _) = _
            rw [if_pos (by simp [hlv])])
          go_wp2_with (first | ((with_reducible show wpList _ _ _ ((⟨none, Op.store 95 (.tmp 4) _, _, _, _, _⟩ : Oper) :: _) _ _); go_must (refine wpList_store_row rfl 95 (.tmp 4) (.tmp 39) rfl wr.heap.size _ rfl rfl _ _ KZ.out (by kernel_rfl) (by rfl) (by kernel_rfl) ?_)) | ((with_reducible show wpList _ _ _ ((⟨some 39, Op.load _ _, _, _, _, _⟩ : Oper) :: _) _ _); go_must (refine wpList_load_mid rfl 95 (.tmp 38) rfl b3 (o3 + k * 8) rfl [.int .i64 tp, .int .i64 fr, .int .i64 bt, .int .i64 sq, .int .i64 1, .int .i64 lv, .int .i64 sp, .string dt] _ HRG.out Tryz.underlying95 rfl (by kernel_rfl) ?_)))
          clear KZ k4 k5 HRG
          obtain ⟨g4, hg4⟩ : ∃ g4, wr.heap.size = g4 := ⟨_, rfl⟩
          generalize ((wr.alloc (.cells #[.int .i64 0, .int .i64 0, .int .i64 0, .int .i64 0, .int .i64 0, .int .i64 0, .int .i64 0, .string ⟨#[]⟩] 95)).setRow wr.heap.size #[.int .i64 tp, .int .i64 fr, .int .i64 bt, .int .i64 sq, .int .i64 1, .int .i64 lv, .int .i64 sp, .string dt]) = w4 at *
          rw [hg4] at K4r
          rw [hg4]
          have K4 := Lib.hid (show Blk w4.drew g4 95 (tcs (tp, ⟨fr, bt, sq, 1, lv, sp, dt⟩)) from K4r.out.drew)
          have S4d := Lib.hid S4.out.drew
          have B4 : Hid (Blk w4.drew x 79 (ncs d p a')) := Lib.hid (S4d.out.sep.get (i := 0) rfl)
          have TB4 := Lib.hid (show a'.bc ≤ p.T.length + k ∧ Tb w4.drew a'.bg a'.FB a'.bc (tabs p.tab (G.take k)) from ⟨T4.out.1, T4.out.2.past (Below.refl _ _).drew⟩)
          have HX4 : Hid (x ∉ a'.FB) := Lib.hid (S4d.out.sep.two (i := 0) (j := 10) (by omega) rfl rfl x (by simp [pX]))
          have HG4 : Hid (g4 ∉ a'.FB) := Lib.hid (TB4.out.2.ne K4.out (by decide))
          have O4d := Lib.hid (O4.out.past (Below.refl _ _).drew)
          have HNE : Hid (∀ z ∈ a'.FB, bk (some ⟨b3, o3, none⟩) ≠ some z) := Lib.hid (fun z hz hA => by
            obtain ⟨ys, hy⟩ := O4d.out.blk hA
            exact TB4.out.2.ne hy (by decide) hz)
          clear hg4 K4r S4 O4 T4
          go_wp2_with fail
-- REGION (*curfew/node.Node).settle 6 ngset6 10
          refine Hs.begin (a'.FB) ?_
          refine Hs.take (v := .pointer (some ⟨x, 0, none⟩)) 0 50 rfl ?_ (fun _ _ => rfl)
          refine Hs.take (v := .pointer (some ⟨x, 0, none⟩)) 1 51 rfl ?_ (fun w' hw' => by go_simp; first | done | rfl | (simp; omega))
          refine Hs.take (v := .pointer (some ⟨x, 19, none⟩)) 2 52 rfl ?_ (fun w' hw' => by go_simp; first | done | rfl | (simp; omega))
          refine Hs.take (v := .pointer (some ⟨a'.bg, 0, none⟩)) 3 53 rfl ?_ (fun w' hw' => by exact ldTable (Blk.cell (i := 19) (Blk.touch (show Blk w4.drew x 79 (ncs d p a') from B4.out) hw' HX4.out) rfl) rfl)
          refine Hs.take (v := .pointer (some ⟨g4, 1, none⟩)) 4 54 rfl ?_ (fun w' hw' => by go_simp; first | done | rfl | (simp; omega))
          refine Hs.take (v := ev ⟨fr, bt, sq, 1, lv, sp, dt⟩) 5 55 rfl ?_ (fun w' hw' => by exact run_loadE (e := ⟨fr, bt, sq, 1, lv, sp, dt⟩) (range_ent (t := (tp, ⟨fr, bt, sq, 1, lv, sp, dt⟩)) (Blk.range (Blk.touch (show Blk w4.drew g4 95 (tcs (tp, ⟨fr, bt, sq, 1, lv, sp, dt⟩)) from K4.out) hw' HG4.out))) rfl)
          refine Hs.call (f := 72) (args := #[.pointer (some ⟨a'.bg, 0, none⟩), ev ⟨fr, bt, sq, 1, lv, sp, dt⟩]) 6 56 rfl ?_ (run_callf Tryz.func72 (by kernel_rfl) (by kernel_rfl) (by simp only [List.map_toArray, List.map_cons, List.map_nil]; rfl))
          refine (Do_c w4.drew a'.bg a'.FB a'.bc (tabs p.tab (G.take k)) TB4.out.2 ⟨fr, bt, sq, 1, lv, sp, dt⟩ (by have := HD4.out; show dt.size ≤ _; omega) (by have := TB4.out.1; have := HGL.out; omega)).mono ?_
          rintro e w5 ⟨rfl, ⟨⟨F5, t5, hF5⟩, tt5⟩⟩
          have T5 := Lib.hid t5
          have HF5 := Lib.hid hF5
          have TT5 := Lib.hid tt5
          clear t5 hF5
          refine Hs.back tt5 ?_
          refine Hs.done ?_
-- END
          have HS5 : Hid (St okN w w5 F (parts x d (mid p K G (k + 1)) { a' with FB := F5, bc := a'.bc + 1 })) := Lib.hid (by
            have h := S4d.out.set (q := ⟨F5, fun w => Tb w a'.bg F5 (a'.bc + 1) (PTab.doo (tabs p.tab (G.take k)) ⟨fr, bt, sq, 1, lv, sp, dt⟩) ∧ a'.bc + 1 ≤ (p.T ++ G).length⟩) 10 rfl (pB_ok { p with tab := PTab.doo (tabs p.tab (G.take k)) ⟨fr, bt, sq, 1, lv, sp, dt⟩, T := p.T ++ G } { a' with FB := F5, bc := a'.bc + 1 }) TT5.out ⟨T5.out, by rw [List.length_append]; have := TB4.out.1; omega⟩ HF5.out
            unfold mid
            rw [HT5.out]
            exact h)
          have HO5 := Lib.hid (O4d.out.touch TT5.out HNE.out)
          clear S4d O4d B4 K4 HX4 HG4 HNE HF5 TT5
          go_wp2_with fail
          go_roundw
          case rel => exact ⟨k + 1, { a' with FB := F5, bc := a'.bc + 1 }, by go_num, by omega, Lib.hid (by rw [HT5.out]; exact ⟨by have := TB4.out.1; show a'.bc + 1 ≤ _; omega, T5.out⟩), HS5, HO5⟩
          case measure => simp [intOf]; omega
      · have HT5 := Lib.hid (show tabs p.tab (G.take (k + 1)) = tabs p.tab (G.take k) by
          rw [HTN.out]
          show (if (od == 1 && lv != 0) = true then _ else _) = _
          rw [if_neg (by simp [hod])])
        go_wp2_with (first | ((with_reducible show wpList _ _ _ ((⟨none, Op.store 95 (.tmp 4) _, _, _, _, _⟩ : Oper) :: _) _ _); go_must (refine wpList_store_row rfl 95 (.tmp 4) (.tmp 39) rfl wr.heap.size _ rfl rfl _ _ KZ.out (by kernel_rfl) (by rfl) (by kernel_rfl) ?_)) | ((with_reducible show wpList _ _ _ ((⟨some 39, Op.load _ _, _, _, _, _⟩ : Oper) :: _) _ _); go_must (refine wpList_load_mid rfl 95 (.tmp 38) rfl b3 (o3 + k * 8) rfl [.int .i64 tp, .int .i64 fr, .int .i64 bt, .int .i64 sq, .int .i64 od, .int .i64 lv, .int .i64 sp, .string dt] _ HRG.out Tryz.underlying95 rfl (by kernel_rfl) ?_)))
        clear KZ k4 k5 HRG
        generalize ((wr.alloc (.cells #[.int .i64 0, .int .i64 0, .int .i64 0, .int .i64 0, .int .i64 0, .int .i64 0, .int .i64 0, .string ⟨#[]⟩] 95)).setRow wr.heap.size #[.int .i64 tp, .int .i64 fr, .int .i64 bt, .int .i64 sq, .int .i64 od, .int .i64 lv, .int .i64 sp, .string dt]) = w4 at *
        go_roundw
        case rel => exact ⟨k + 1, a', by go_num, by omega, Lib.hid (by rw [HT5.out]; exact ⟨Nat.le_succ_of_le T4.out.1, T4.out.2⟩), Lib.hid (by unfold mid; rw [HT5.out]; exact S4.out), O4⟩
        case measure => simp [intOf]; omega
    · have hkG : k = G.length := by omega
      subst hkG
      go_wp2_with fail
      go_end0
      refine ⟨rfl, ?_⟩
      have h := (show St okN w wr F (parts x d (mid p K G G.length) a') from SR.out).shut ⟨HR.out.n, HR.out.id, HR.out.boot, HR.out.pro, HR.out.clock, HR.out.heard, HR.out.last, HR.out.mem, HR.out.com, HR.out.vo, HR.out.den, HR.out.pf, HR.out.seq⟩
      have e : mid p K G G.length = setP p := by
        unfold mid setP newT
        rw [HK0.out, HG.out, List.take_length, Int.toNat_natCast]
      rw [e] at h
      exact h
end Go.Proofs.YtacipjdaiglnjaaGreatDoor

