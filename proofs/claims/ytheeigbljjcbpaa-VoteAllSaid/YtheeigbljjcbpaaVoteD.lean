/- Contract of Best. -/
import Derived.Test.YtheeigbljjcbpaaVoteC
import Derived.Test.YtheeigbljjcbpaaTeamB
import Derived.Deep.CutRange
import Derived.Lib.MinMax
namespace Go.Proofs.Ytheeigbljjcbpaa
open Go.RowKit PVote

/-- What Best leaves: its answer, with a log of its own. -/
def BestPost (w : World) (n : Int) (S : List (Option Vt)) (e : Ending) (w' : World) : Prop :=
  ∃ A c, e = .returned (.tuple #[vv (best n S) A c, .bool (PTeam.most (tm S) n)]) ∧ Ow w' w.heap.size 52 7 A (best n S).es.length c (els (best n S).es) ∧ Below w.heap.size w w'

set_option maxHeartbeats 4000000 in
set_option maxRecDepth 100000 in
theorem vbest_nil (w : World) : Calls Try.prog 14 #[.pointer none] w fun e w' => ∃ A c, e = .returned (.tuple #[vv zero A c, .bool false]) ∧ Below w.heap.size w w' := by
  have K1 := Lib.hid (Blk.new w #[.int .i64 0, .int .i64 0, .slice none 0 0, .int .i64 0] 32)
  have B1 := Lib.hid ((Below.refl w.heap.size w).alloc (Nat.le_refl _) (.cells #[.int .i64 0, .int .i64 0, .slice none 0 0, .int .i64 0] 32))
  go_enter Try.func14, Try.ntmps14
  go_wp2_with fail
  generalize (w.alloc (.cells #[.int .i64 0, .int .i64 0, .slice none 0 0, .int .i64 0] 32)) = w1 at *
  refine (venough_nil w1).mono ?_
  rintro e w2 ⟨rfl, b2⟩
  have K2 := Lib.hid (K1.out.past b2)
  have B2 := Lib.hid (B1.out.trans (b2.mono B1.out.size))
  clear b2 K1 B1
  go_wp2_with ((with_reducible show wpList _ _ _ ((⟨none, Op.store 32 (.tmp 2) _, _, _, _, _⟩ : Oper) :: _) _ _); go_must (refine wpList_store_row rfl 32 (.tmp 2) (.tmp 12) rfl w.heap.size _ rfl rfl _ _ K2.out (by kernel_rfl) (by rfl) (by kernel_rfl) ?_))
  have B3 := B2.out.trans (grown_below (grown_row w2 w.heap.size #[.int .i64 0, .int .i64 0, .slice none 0 0, .int .i64 0]) (Nat.le_refl _) B2.out.size)
  exact bodyPost_ret (v := .tuple #[vv zero none 0, .bool false]) (results_rowB rfl _ _ w.heap.size _ _ _ _ rfl rfl (Blk.row K2.out #[.int .i64 0, .int .i64 0, .slice none 0 0, .int .i64 0]) Try.underlying32 rfl (by kernel_rfl)) rfl ⟨none, 0, rfl, B3⟩

set_option maxHeartbeats 4000000 in
set_option maxRecDepth 100000 in
theorem vbest_no (w : World) (g : Nat) (F : List Nat) (view n : Int) (S : List (Option Vt)) (h : Vs w g F view n S) (hm : PTeam.most (tm S) n = false) :
    Calls Try.prog 14 #[.pointer (some ⟨g, 0, none⟩)] w (BestPost w n S) := by
  have K1 := Lib.hid (Blk.new w #[.int .i64 0, .int .i64 0, .slice none 0 0, .int .i64 0] 32)
  have B1 := Lib.hid ((Below.refl w.heap.size w).alloc (Nat.le_refl _) (.cells #[.int .i64 0, .int .i64 0, .slice none 0 0, .int .i64 0] 32))
  have H1 := Lib.hid (h.alloc (.cells #[.int .i64 0, .int .i64 0, .slice none 0 0, .int .i64 0] 32))
  have HM := Lib.hid hm
  have HE := Lib.hid (show best n S = zero by unfold best; rw [hm]; rfl)
  clear h hm
  go_enter Try.func14, Try.ntmps14
  go_wp2_with fail
  generalize (w.alloc (.cells #[.int .i64 0, .int .i64 0, .slice none 0 0, .int .i64 0] 32)) = w1 at *
  refine (venough_c w1 g F view n S H1.out).mono ?_
  rw [HM.out]
  rintro e w2 ⟨rfl, b2⟩
  have K2 := Lib.hid (K1.out.past b2)
  have B2 := Lib.hid (B1.out.trans (b2.mono B1.out.size))
  clear b2 K1 B1 H1
  go_wp2_with ((with_reducible show wpList _ _ _ ((⟨none, Op.store 32 (.tmp 2) _, _, _, _, _⟩ : Oper) :: _) _ _); go_must (refine wpList_store_row rfl 32 (.tmp 2) (.tmp 12) rfl w.heap.size _ rfl rfl _ _ K2.out (by kernel_rfl) (by rfl) (by kernel_rfl) ?_))
  have B3 := B2.out.trans (grown_below (grown_row w2 w.heap.size #[.int .i64 0, .int .i64 0, .slice none 0 0, .int .i64 0]) (Nat.le_refl _) B2.out.size)
  exact bodyPost_ret (v := .tuple #[vv zero none 0, .bool false]) (results_rowB rfl _ _ w.heap.size _ _ _ _ rfl rfl (Blk.row K2.out #[.int .i64 0, .int .i64 0, .slice none 0 0, .int .i64 0]) Try.underlying32 rfl (by kernel_rfl)) rfl ⟨none, 0, by rw [HE.out, HM.out], by rw [HE.out]; exact Ow.nil _ _ _ _, B3⟩

/-- What a round of Best keeps. -/
structure BSt (w w4 wr : World) (g4 : Nat) (l : List Vt) (i : Nat) (b : Vt) (BA : Option Addr) (BC : Nat) (m : Int) : Prop where
  run : run (l.take i) = (b, m)
  blk : Blk wr g4 32 [.int .i64 b.fr, .int .i64 b.last, .slice BA b.es.length BC, .int .i64 b.com]
  rd : Rd wr w.heap.size BA BC 7 b.es.length (els b.es)
  tch : Touch [g4] w4 wr
  bel : Below w.heap.size w wr
theorem BSt.next {w w4 wr wx : World} {g4 i : Nat} {l : List Vt} {b x b' : Vt} {BA VA BA' : Option Addr} {BC VC BC' : Nat} {m m' : Int} (h : BSt w w4 wr g4 l i b BA BC m) (hx : l[i]? = some x) (hV : Rd wr w.heap.size VA VC 7 x.es.length (els x.es))
    (hg : w.heap.size ≤ g4) (ht : Touch [g4] wr wx) (hK : Blk wx g4 32 [.int .i64 b'.fr, .int .i64 b'.last, .slice BA' b'.es.length BC', .int .i64 b'.com])
    (hb : (b' = pickB b x) ∧ (b' = x ∧ BA' = VA ∧ BC' = VC ∨ b' = b ∧ BA' = BA ∧ BC' = BC)) (hm : m' = max m x.com) : BSt w w4 wx g4 l (i + 1) b' BA' BC' m' := by
  have hbel : Below w.heap.size wr wx := ht.below (by simpa using hg) h.bel.size
  refine ⟨?_, hK, ?_, h.tch.trans ht, h.bel.trans hbel⟩
  · rw [run_take hx, h.run, hb.1, hm]; rfl
  · rcases hb.2 with ⟨rfl, rfl, rfl⟩ | ⟨rfl, rfl, rfl⟩
    · exact hV.below hbel
    · exact h.rd.below hbel

set_option maxHeartbeats 4000000 in
set_option maxRecDepth 100000 in
theorem vbest_yes (w : World) (g : Nat) (F : List Nat) (view n : Int) (S : List (Option Vt)) (h : Vs w g F view n S) (hp : Pl S) (hm : PTeam.most (tm S) n = true) :
    Calls Try.prog 14 #[.pointer (some ⟨g, 0, none⟩)] w (BestPost w n S) := by
  have K1 := Lib.hid (Blk.new w #[.int .i64 0, .int .i64 0, .slice none 0 0, .int .i64 0] 32)
  have B1 := Lib.hid ((Below.refl w.heap.size w).alloc (Nat.le_refl _) (.cells #[.int .i64 0, .int .i64 0, .slice none 0 0, .int .i64 0] 32))
  have H1 := Lib.hid (h.alloc (.cells #[.int .i64 0, .int .i64 0, .slice none 0 0, .int .i64 0] 32))
  have HM := Lib.hid hm
  have HE := Lib.hid (show best n S = cutc (run (got S)) by unfold best; rw [hm]; rfl)
  have H0 := Lib.hid h
  have HP := Lib.hid hp
  clear h hp hm
  go_enter Try.func14, Try.ntmps14
  go_wp2_with fail
  generalize (w.alloc (.cells #[.int .i64 0, .int .i64 0, .slice none 0 0, .int .i64 0] 32)) = w1 at *
  refine (venough_c w1 g F view n S H1.out).mono ?_
  rw [HM.out]
  rintro e w2 ⟨rfl, b2⟩
  have K2 := Lib.hid (K1.out.past b2)
  have B2 := Lib.hid (B1.out.trans (b2.mono B1.out.size))
  have H2 := Lib.hid (H1.out.past b2)
  clear b2 K1 B1 H1
  have K4 := Lib.hid (Blk.new w2 #[.int .i64 0, .int .i64 0, .slice none 0 0, .int .i64 0] 32)
  have qt : ((w2.alloc (.cells #[.int .i64 0, .int .i64 0, .slice none 0 0, .int .i64 0] 32)).setRow w2.heap.size #[.int .i64 0, .int .i64 0, .slice none 0 0, .int .i64 0]).cell? ⟨g, 2, none⟩ = some (.int .i64 (tm S)) :=
    ((H2.out.alloc (.cells #[.int .i64 0, .int .i64 0, .slice none 0 0, .int .i64 0] 32)).touch (Touch.of_grown (grown_row _ w2.heap.size #[.int .i64 0, .int .i64 0, .slice none 0 0, .int .i64 0])) (fun k hk hm => by have := H2.out.hi k hm; rw [List.mem_singleton.1 hk] at this; omega)).head.2.2
  have B3 := Lib.hid ((B2.out.alloc B2.out.size (.cells #[.int .i64 0, .int .i64 0, .slice none 0 0, .int .i64 0] 32)).trans (grown_below (grown_row (w2.alloc (.cells #[.int .i64 0, .int .i64 0, .slice none 0 0, .int .i64 0] 32)) w2.heap.size #[.int .i64 0, .int .i64 0, .slice none 0 0, .int .i64 0]) B2.out.size (by have := B2.out.size; simp; omega)))
  have K2' := Lib.hid (((K2.out.alloc (.cells #[.int .i64 0, .int .i64 0, .slice none 0 0, .int .i64 0] 32)).far (grown_row (w2.alloc (.cells #[.int .i64 0, .int .i64 0, .slice none 0 0, .int .i64 0] 32)) w2.heap.size #[.int .i64 0, .int .i64 0, .slice none 0 0, .int .i64 0]) (by have := K2.out.lt; omega)))
  have K4' := Lib.hid (K4.out.row #[.int .i64 0, .int .i64 0, .slice none 0 0, .int .i64 0])
  have G4 := Lib.hid B2.out.size
  have NE24 := Lib.hid (show w.heap.size ≠ w2.heap.size by have := K2.out.lt; omega)
  have HLT := Lib.hid (tm_lt S)
  obtain ⟨t, ht⟩ : ∃ t, tm S = t := ⟨_, rfl⟩
  rw [ht] at qt HLT
  have HT := Lib.hid ht
  clear ht
  go_wp2_with ((with_reducible show wpList _ _ _ ((⟨none, Op.store 32 (.tmp 4) _, _, _, _, _⟩ : Oper) :: _) _ _); go_must (refine wpList_store_row rfl 32 (.tmp 4) (.tmp 13) rfl w2.heap.size _ rfl rfl _ _ K4.out (by kernel_rfl) (by rfl) (by kernel_rfl) ?_))
  clear K2 B2 H2 K4 qt
  generalize (w2.alloc (.cells #[.int .i64 0, .int .i64 0, .slice none 0 0, .int .i64 0] 32)).setRow w2.heap.size #[.int .i64 0, .int .i64 0, .slice none 0 0, .int .i64 0] = w3 at *
  generalize w2.heap.size = g4 at *
  refine (tList_c w3 t HLT.out).mono ?_
  rintro e w4 ⟨LA, LC, rfl, lo, b4⟩
  have B4 := Lib.hid (B3.out.trans (b4.mono B3.out.size))
  have K2 := Lib.hid (K2'.out.past b4)
  have K4 := Lib.hid (K4'.out.past b4)
  have L4 := Lib.hid (Ow.of_own lo)
  have NL := Lib.hid (L4.out.ne K4.out (by decide))
  have C7 := Lib.hid (PTeam.cnt_le t)
  have c7 := PTeam.cnt_le t
  have HCL := Lib.hid (show (got S).length = PTeam.cnt t by rw [got_len S H0.out.len, HT.out])
  have S0 := Lib.hid (show BSt w w4 w4 g4 (got S) 0 zero none 0 0 from ⟨run_nil, K4.out, Rd.nil _ _ _, Touch.refl _ _, B4.out⟩)
  clear b4 lo B3 K2' K4' HLT K4
  go_wp2_with fail
  go_loopw [5, 7, 8, 20] (fun s5 _ _ s20 wr => ∃ (i : Nat) (b : Vt) (BA : Option Addr) (BC : Nat) (m : Int), s20 = .int .i64 i ∧ s5 = .int .i64 m ∧ i ≤ PTeam.cnt t ∧ Hid (BSt w w4 wr g4 (got S) i b BA BC m)) (fun _ _ _ s20 _ => PTeam.cnt t - (intOf s20).toNat)
  case atStart => exact ⟨0, zero, none, 0, 0, rfl, rfl, by omega, S0⟩
  case round =>
    clear S0
    obtain ⟨i, b, BA, BC, m, rfl, rfl, hi, ST⟩ := hrel
    by_cases hin : i < PTeam.cnt t
    · have LR := Lib.hid (show Rd wr wr.heap.size LA LC 1 (PTeam.cnt t) (is (PTeam.lst t)) from (L4.out.touch ST.out.tch (fun s hs => by rw [List.mem_singleton.1 hs]; exact NL.out)).rd)
      have hll : i < (PTeam.lst t).length := by rw [PTeam.lst_length]; exact hin
      obtain ⟨lb, lo, rfl, -, kl⟩ := LR.out.at_ hin
      rw [is_getD _ _ hll] at kl
      have hgi : (PTeam.lst (tm S))[i]? = some ((PTeam.lst t).getD i 0) := by rw [HT.out, List.getD_eq_getElem?_getD, List.getElem?_eq_getElem hll]; rfl
      obtain ⟨k, hk, ek, x, hSk, htab, hgot⟩ := got_at S H0.out.len hgi
      rw [ek] at kl
      obtain ⟨VA, VC, hra, hrd⟩ := H0.out.at_ htab
      have HRA := Lib.hid (rangeAt_below hra ST.out.bel H0.out.lt)
      have HRD0 := Lib.hid (hrd.below ST.out.bel)
      have HGOT := Lib.hid hgot
      have ek7 : (k : Int) < 7 := by omega
      clear LR hll hgi ek hSk htab hra hrd hgot
      have K8 := Lib.hid (Blk.new wr #[.int .i64 0, .int .i64 0, .slice none 0 0, .int .i64 0] 32)
      go_upto_region 8 with (first | ((with_reducible show wpList _ _ _ ((⟨some 30, Op.load _ _, _, _, _, _⟩ : Oper) :: _) _ _); go_must (refine wpList_load_mid rfl 32 (.tmp 29) rfl g (3 + k * 4) rfl ([.int .i64 x.fr, .int .i64 x.last, .slice VA x.es.length VC, .int .i64 x.com]) _ HRA.out Try.underlying32 rfl (by kernel_rfl) ?_)) | ((with_reducible show wpList _ _ _ ((⟨none, Op.store 32 (.tmp 8) _, _, _, _, _⟩ : Oper) :: _) _ _); go_must (refine wpList_store_row rfl 32 (.tmp 8) (.tmp 30) rfl wr.heap.size _ rfl rfl _ _ K8.out (by kernel_rfl) (by rfl) (by kernel_rfl) ?_)))
      have LT4 := Lib.hid ST.out.blk.lt
      have b5 := ((Below.refl wr.heap.size wr).alloc (Nat.le_refl _) (.cells #[.int .i64 0, .int .i64 0, .slice none 0 0, .int .i64 0] 32)).trans (grown_below (grown_row (wr.alloc (.cells #[.int .i64 0, .int .i64 0, .slice none 0 0, .int .i64 0] 32)) wr.heap.size #[.int .i64 x.fr, .int .i64 x.last, .slice VA x.es.length VC, .int .i64 x.com]) (Nat.le_refl _) (by simp))
      have T5 := Lib.hid (show Touch [g4] wr _ from Touch.of_below b5)
      have K8 := Lib.hid (show Blk _ wr.heap.size _ [.int .i64 x.fr, .int .i64 x.last, .slice VA x.es.length VC, .int .i64 x.com] from K8.out.row #[.int .i64 x.fr, .int .i64 x.last, .slice VA x.es.length VC, .int .i64 x.com])
      have KB := Lib.hid (ST.out.blk.past b5)
      have NE8 := Lib.hid (show wr.heap.size ≠ g4 by have := LT4.out; omega)
      clear b5 kl HRA LT4
      generalize (wr.alloc (.cells #[.int .i64 0, .int .i64 0, .slice none 0 0, .int .i64 0] 32)).setRow wr.heap.size #[.int .i64 x.fr, .int .i64 x.last, .slice VA x.es.length VC, .int .i64 x.com] = w5 at *
      generalize wr.heap.size = g8 at *
      have k0 := KB.out.cell (i := 0) rfl
      by_cases h0 : b.fr = 0
      · have d0 : (b.fr == 0) = true := by rw [h0]; rfl
        have HPK := Lib.hid (show x = pickB b x by unfold pickB; rw [if_pos (Or.inl h0)])
        have KS := Lib.hid (KB.out.row #[.int .i64 x.fr, .int .i64 x.last, .slice VA x.es.length VC, .int .i64 x.com])
        have TS := Lib.hid (T5.out.trans (Touch.of_grown (grown_row w5 g4 #[.int .i64 x.fr, .int .i64 x.last, .slice VA x.es.length VC, .int .i64 x.com])))
        have p3 := ((K8.out.far (grown_row w5 g4 #[.int .i64 x.fr, .int .i64 x.last, .slice VA x.es.length VC, .int .i64 x.com]) NE8.out)).cell (i := 3) rfl
        clear h0
        go_wp2_with (first | ((with_reducible show wpList _ _ _ ((⟨some 39, Op.load _ _, _, _, _, _⟩ : Oper) :: _) _ _); go_must (refine wpList_load_row rfl 32 (.tmp 8) rfl g8 rfl 32 #[.int .i64 x.fr, .int .i64 x.last, .slice VA x.es.length VC, .int .i64 x.com] (0, 0) _ K8.out Try.underlying32 rfl (by kernel_rfl) ?_)) | ((with_reducible show wpList _ _ _ ((⟨none, Op.store 32 (.tmp 4) _, _, _, _, _⟩ : Oper) :: _) _ _); go_must (refine wpList_store_row rfl 32 (.tmp 4) (.tmp 39) rfl g4 _ rfl rfl _ _ KB.out (by kernel_rfl) (by rfl) (by kernel_rfl) ?_)))
        go_roundw
        case rel => exact ⟨i + 1, x, VA, VC, max m x.com, by go_num, rfl, by omega, Lib.hid (ST.out.next HGOT.out HRD0.out G4.out TS.out KS.out ⟨HPK.out, .inl ⟨rfl, rfl, rfl⟩⟩ rfl)⟩
        case measure => simp [intOf]; omega
      · have d0 : (b.fr == 0) = false := by simpa using h0
        have H00 := Lib.hid h0
        clear h0
        have HBT := Lib.hid (isBetter_c w5 x b VA BA VC BC)
        obtain ⟨bt, hbt⟩ : ∃ bt, better x b = bt := ⟨_, rfl⟩
        rw [hbt] at HBT
        go_wp2_with (first | ((with_reducible show wpList _ _ _ ((⟨some 35, Op.load _ _, _, _, _, _⟩ : Oper) :: _) _ _); go_must (refine wpList_unguard rfl ?_; refine wpList_load_row rfl 32 (.tmp 8) rfl g8 rfl 32 #[.int .i64 x.fr, .int .i64 x.last, .slice VA x.es.length VC, .int .i64 x.com] (0, 0) _ K8.out Try.underlying32 rfl (by kernel_rfl) ?_)) | ((with_reducible show wpList _ _ _ ((⟨some 36, Op.load _ _, _, _, _, _⟩ : Oper) :: _) _ _); go_must (refine wpList_unguard rfl ?_; refine wpList_load_row rfl 32 (.tmp 4) rfl g4 rfl 32 #[.int .i64 b.fr, .int .i64 b.last, .slice BA b.es.length BC, .int .i64 b.com] (0, 0) _ KB.out Try.underlying32 rfl (by kernel_rfl) ?_)))
        refine HBT.out.mono ?_
        rintro e w6 ⟨rfl, b6⟩
        have K8 := Lib.hid (K8.out.past b6)
        have KB := Lib.hid (KB.out.past b6)
        have T6 := Lib.hid (T5.out.trans (Touch.of_below (S := [g4]) b6))
        clear b6 T5 HBT k0
        cases bt with
        | true =>
          have HPK := Lib.hid (show x = pickB b x by unfold pickB; rw [if_pos (Or.inr hbt)])
          have KS := Lib.hid (KB.out.row #[.int .i64 x.fr, .int .i64 x.last, .slice VA x.es.length VC, .int .i64 x.com])
          have TS := Lib.hid (T6.out.trans (Touch.of_grown (grown_row w6 g4 #[.int .i64 x.fr, .int .i64 x.last, .slice VA x.es.length VC, .int .i64 x.com])))
          have p3 := ((K8.out.far (grown_row w6 g4 #[.int .i64 x.fr, .int .i64 x.last, .slice VA x.es.length VC, .int .i64 x.com]) NE8.out)).cell (i := 3) rfl
          clear hbt
          go_wp2_with (first | ((with_reducible show wpList _ _ _ ((⟨some 39, Op.load _ _, _, _, _, _⟩ : Oper) :: _) _ _); go_must (refine wpList_load_row rfl 32 (.tmp 8) rfl g8 rfl 32 #[.int .i64 x.fr, .int .i64 x.last, .slice VA x.es.length VC, .int .i64 x.com] (0, 0) _ K8.out Try.underlying32 rfl (by kernel_rfl) ?_)) | ((with_reducible show wpList _ _ _ ((⟨none, Op.store 32 (.tmp 4) _, _, _, _, _⟩ : Oper) :: _) _ _); go_must (refine wpList_store_row rfl 32 (.tmp 4) (.tmp 39) rfl g4 _ rfl rfl _ _ KB.out (by kernel_rfl) (by rfl) (by kernel_rfl) ?_)))
          go_roundw
          case rel => exact ⟨i + 1, x, VA, VC, max m x.com, by go_num, rfl, by omega, Lib.hid (ST.out.next HGOT.out HRD0.out G4.out TS.out KS.out ⟨HPK.out, .inl ⟨rfl, rfl, rfl⟩⟩ rfl)⟩
          case measure => simp [intOf]; omega
        | false =>
          have HPK := Lib.hid (show b = pickB b x by unfold pickB; rw [if_neg (by rw [hbt]; have := H00.out; simp [this])])
          have p3 := K8.out.cell (i := 3) rfl
          clear hbt
          go_wp2_with fail
          go_roundw
          case rel => exact ⟨i + 1, b, BA, BC, max m x.com, by go_num, rfl, by omega, Lib.hid (ST.out.next HGOT.out HRD0.out G4.out T6.out KB.out ⟨HPK.out, .inr ⟨rfl, rfl, rfl⟩⟩ rfl)⟩
          case measure => simp [intOf]; omega
    · obtain rfl : i = PTeam.cnt t := by omega
      have HRUN := Lib.hid (show run (got S) = (b, m) by have := ST.out.run; rwa [← HCL.out, List.take_length] at this)
      have HLE := Lib.hid (show b.es.length ≤ 60 by
        have := run_le (got S) (fun x hx => by obtain ⟨k, hk⟩ := got_mem hx; exact (HP.out k x hk).2)
        rw [HRUN.out] at this; exact this)
      have KB := Lib.hid ST.out.blk
      have KR := Lib.hid (K2.out.touch ST.out.tch (by simpa using NE24.out))
      have q2 := KB.out.cell (i := 2) rfl
      go_wp2_with fail
      refine (cloneE_c wr w.heap.size BA BC b.es.length b.es ST.out.rd (by have := HLE.out; omega)).mono ?_
      rintro e w6 ⟨CA, CC, rfl, co, b6⟩
      have B6 := Lib.hid (ST.out.bel.trans (b6.mono ST.out.bel.size))
      have CO := Lib.hid (Ow.down (Ow.of_own co) ST.out.bel.size)
      have KB := Lib.hid (KB.out.past b6)
      have KR := Lib.hid (KR.out.past b6)
      clear b6 co q2
      have c2 := KB.out.cell (i := 2) rfl
      have c3 := KB.out.cell (i := 3) rfl
      have f2 := KB.out.free 2
      have f3 := KB.out.free 3
      have KE := Lib.hid ((KB.out.set 2 (.slice CA b.es.length CC)).set 3 (.int .i64 (min m b.es.length)))
      have GE := grown_set w6 g4 2 (.slice CA b.es.length CC)
      have GF := grown_set (w6.setCell ⟨g4, 2, none⟩ (.slice CA b.es.length CC)) g4 3 (.int .i64 (min m b.es.length))
      have KF := Lib.hid ((KR.out.far GE NE24.out).far GF NE24.out)
      have TE := Lib.hid ((Touch.of_grown GE).trans (Touch.of_grown GF))
      clear GE GF
      go_wp2_with (first | ((with_reducible show wpList _ _ _ ((⟨some 55, Op.load _ _, _, _, _, _⟩ : Oper) :: _) _ _); go_must (refine wpList_load_row rfl 32 (.tmp 4) rfl g4 rfl 32 #[.int .i64 b.fr, .int .i64 b.last, .slice CA b.es.length CC, .int .i64 (min m b.es.length)] (0, 0) _ KE.out Try.underlying32 rfl (by kernel_rfl) ?_)) | ((with_reducible show wpList _ _ _ ((⟨none, Op.store 32 (.tmp 2) _, _, _, _, _⟩ : Oper) :: _) _ _); go_must (refine wpList_store_row rfl 32 (.tmp 2) (.tmp 55) rfl w.heap.size _ rfl rfl _ _ KF.out (by kernel_rfl) (by rfl) (by kernel_rfl) ?_)))
      have KZ := KF.out.row #[.int .i64 b.fr, .int .i64 b.last, .slice CA b.es.length CC, .int .i64 (min m b.es.length)]
      have GZ := grown_row ((w6.setCell ⟨g4, 2, none⟩ (.slice CA b.es.length CC)).setCell ⟨g4, 3, none⟩ (.int .i64 (min m b.es.length))) w.heap.size #[.int .i64 b.fr, .int .i64 b.last, .slice CA b.es.length CC, .int .i64 (min m b.es.length)]
      have TZ := TE.out.wide (S' := [g4, w.heap.size]) (by simp)
      have TY := TZ.trans ((Touch.of_grown GZ).wide (S' := [g4, w.heap.size]) (by simp))
      have CZ := CO.out.touch TY (fun s hs => by
        simp only [List.mem_cons, List.not_mem_nil, or_false] at hs
        rcases hs with rfl | rfl
        · exact CO.out.ne KB.out (by decide)
        · exact CO.out.ne KR.out (by decide))
      have BZ := B6.out.trans (TY.below (B := w.heap.size) (by have := G4.out; simpa using this) B6.out.size)
      have ebest : best n S = ⟨b.fr, b.last, b.es, min m b.es.length⟩ := by rw [HE.out, HRUN.out]; rfl
      exact bodyPost_ret (v := .tuple #[vv (best n S) CA CC, .bool true]) (by rw [ebest]; exact results_rowB rfl _ _ w.heap.size _ _ _ _ rfl rfl KZ Try.underlying32 rfl (by kernel_rfl)) rfl ⟨CA, CC, by rw [HM.out], by rw [ebest]; exact CZ, BZ⟩
end Go.Proofs.Ytheeigbljjcbpaa
