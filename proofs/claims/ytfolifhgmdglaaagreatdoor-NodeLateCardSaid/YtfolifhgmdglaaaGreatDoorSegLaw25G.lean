/- The walk of NodeLate. -/
import Derived.Test.YtfolifhgmdglaaaGreatDoorSegLaw25F
import Derived.Test.YtfolifhgmdglaaaGreatDoorSeg25
import Derived.Test.YtfolifhgmdglaaaGreatDoorSeg26
namespace Go.Proofs.YtfolifhgmdglaaaGreatDoor
open Go.RowKit PNode

/-- What comes late. -/
def lateM (kind o me view mem : Int) (L : List Ent) : Msg := ⟨kind, o, me, 1, view, 0, mem, 0, L, 0, 0, 0, false⟩

set_option maxHeartbeats 16000000 in
set_option maxRecDepth 100000 in
theorem NodeLate_good (w : World) (ht : Tab w) (n view promise : Int) (inst : Bool) (A0 : Option Addr) (len0 cap0 : Nat) (z0 : List Ent) (R0 : Rd w w.heap.size A0 cap0 7 len0 (els z0)) (g1 : 3 ≤ n) (g2 : n ≤ 7) (g3 : 1 ≤ view) (g4 : view < promise) (g5 : promise ≤ 60) (g6 : (len0 : Int) ≤ 10) :
    Calls Tryz.prog 9 #[.int .i64 n, .int .i64 view, .int .i64 promise, .bool inst, .slice A0 len0 cap0] w fun e w' => e = .returned (.bool true) ∧ Below w.heap.size w w' := by
  have HT := Lib.hid ht
  have HR0 := Lib.hid R0
  clear ht R0
  go_enter Tryz.func9, Tryz.ntmps9
  go_wp2_with fail
  refine (begunN_c w HT.out).mono ?_
  rintro e w1 ⟨rfl, b1⟩
  have B1 := Lib.hid b1
  clear b1
  go_wp2_with fail
  have ho0 := decider_in (v := view) g3 g1 g2
  have hq0 := decider_in (v := promise) (by omega) g1 g2
  refine (rtDecider_c w1 view n (by omega) (by omega)).mono ?_
  obtain ⟨o, ho⟩ : ∃ o, PTeam.decider view n = o := ⟨_, rfl⟩
  rw [ho] at ho0 ⊢
  have HO := Lib.hid ho
  clear ho
  rintro e w5 ⟨rfl, rfl⟩
  go_wp2_with fail
  refine (rtDecider_c w1 promise n (by omega) (by omega)).mono ?_
  obtain ⟨q, hq⟩ : ∃ q, PTeam.decider promise n = q := ⟨_, rfl⟩
  rw [hq] at hq0 ⊢
  have HQ := Lib.hid hq
  clear hq
  obtain ⟨ho1, ho2⟩ := ho0
  obtain ⟨hq1, hq2⟩ := hq0
  rintro e w5 ⟨rfl, rfl⟩
  go_wp2_with fail
  go_loopw [14] (fun s14 wr => ∃ me : Int, s14 = .int .i64 me ∧ 1 ≤ me ∧ me ≤ 3 ∧ (me = 2 → 1 = o ∨ 1 = q) ∧ (me = 3 → (1 = o ∨ 1 = q) ∧ (2 = o ∨ 2 = q)) ∧ Hid (Below w.heap.size w wr)) (fun s14 _ => (3 - intOf s14).toNat)
  case atStart => exact ⟨1, rfl, by omega, by omega, by omega, by omega, B1⟩
  case round =>
    obtain ⟨me, rfl, e1, e2, e3, e4, BT⟩ := hrel
    clear B1
    by_cases hmo : me = o
    · go_wp2_with fail
      go_roundw
      case rel => exact ⟨me + 1, by go_num, by omega, by omega, by omega, by omega, BT⟩
      case measure => simp [intOf]; omega
    · by_cases hmq : me = q
      · go_wp2_with fail
        go_roundw
        case rel => exact ⟨me + 1, by go_num, by omega, by omega, by omega, by omega, BT⟩
        case measure => simp [intOf]; omega
      · clear e3 e4
        have b2 := Lib.hid (BT.out.alloc BT.out.size (.cells #[.int .i64 0, .int .i64 0] 28))
        have D2 : Hid (Ds (wr.alloc (.cells #[.int .i64 0, .int .i64 0] 28)) wr.heap.size 0 0) := Lib.hid (Blk.new wr _ _)
        have hd1 := Lib.hid (show w.heap.size ≤ wr.heap.size from BT.out.size)
        clear BT
        go_wp2_with fail
        case roundEnd => exfalso; rename_i hh; simp [hmo, hmq] at hh
        refine (Sn.make (w0 := w) b2.out (id := me) (n := n) (b := 0) D2.out hd1.out g1 g2 e1 (by omega) (by omega) (by omega) (by omega) (by omega)).mono ?_
        rintro e w4 ⟨x, rfl, n4, -⟩
        have N4 := Lib.hid (show Sn w w4 x wr.heap.size (newP me n 1 0) from n4)
        obtain ⟨d, hd⟩ : ∃ d, wr.heap.size = d := ⟨_, rfl⟩
        rw [hd] at N4
        rw [hd]
        clear n4 hd hd1 D2 b2
        go_wp2_with fail
        refine (from_c w4 1 q me promise).mono ?_
        rintro e w6 ⟨rfl, b6⟩
        have N6 := Lib.hid (N4.out.past b6)
        have HM := Lib.hid (may_m (kind := 1) (id := q) (dst := me) (view := promise) (mem := 0) (num := 0) (es := []) (yes := false) (by omega) (by omega) (by omega) (by omega) (by omega) (by omega) (by omega) (by simp) rfl)
        have HP := Lib.hid (Pm.new me n)
        have HPG := Lib.hid (HP.out.got (m := (fromM 1 q me promise)) rfl)
        have HG : Hid (PGram.herr me PGram.zeroL (some (fromM 1 q me promise)) = 0) := Lib.hid (by
          show (if me ≠ me then (1 : Int) else if (1 : Int) < (PGram.at_ PGram.zeroL q).boot then 7 else 0) = 0
          rw [if_neg (by simp), zero_boot]
          rfl)
        have HH : Hid (∀ w1 F1 A1 c1, Nd w1 x d F1 (gotP (newP me n 1 0) (fromM 1 q me promise)) → Calls Tryz.prog 47 #[.pointer (some ⟨x, 0, none⟩), mv (fromM 1 q me promise) A1 c1] w1 fun e w' => e = .returned (.bool true) ∧ Below w1.heap.size w1 w') := Lib.hid (by
          intro w1 F1 A1 c1 h1
          have := hd_prop_t h1 (fromM 1 q me promise) A1 c1 rfl HPG.out.kn (by show 0 ≤ promise ∧ promise ≤ _; omega)
          rw [show (PTeam.decider ((fromM 1 q me promise)).view ((gotP (newP me n 1 0) (fromM 1 q me promise))).n == ((fromM 1 q me promise)).fr) = true from by
            show (PTeam.decider promise n == q) = true
            rw [HQ.out]; simp] at this
          exact this)
        clear b6 N4
        go_wp2_with fail
        refine (hearL_of N6.out (fromM 1 q me promise) none 0 (Rd.nil _ _ _) HT.out HM.out HG.out (C := cOne (gotP (newP me n 1 0) (fromM 1 q me promise)) q (voteM (gotP (newP me n 1 0) (fromM 1 q me promise)) promise) ({ quitP (gotP (newP me n 1 0) (fromM 1 q me promise)) promise with den := 0 } : Np)) (fun Q p' hh => by obtain ⟨_, _, _, e⟩ := hh; rw [e]; exact ⟨rfl, rfl⟩) (fun w1 F1 A1 c1 h1 => HH.out w1 F1 A1 c1 h1) (fun w1 F1 A1 c1 h1 r1 => heed_prop h1 (fromM 1 q me promise) A1 c1 rfl (fun w2 b2 => prop_new (h1.past b2) (fromM 1 q me promise) A1 c1 (by show (0 : Int) < promise; omega) (by show promise ≤ _; omega) HPG.out.L HPG.out.com))).mono ?_
        rintro e w9 ⟨Q, p', A, c, ⟨A9, c9, rfl, rfl⟩, rfl, o9, n9, -⟩
        have P9 : Hid (Pm me n promise ({ quitP (gotP (newP me n 1 0) (fromM 1 q me promise)) promise with den := 0 } : Np)) := Lib.hid (HPG.out.vote promise)
        have N9 := Lib.hid n9
        clear o9 n9 N6 HG HH HM HP HPG
        go_wp2_with fail
        have hF : Calls Tryz.prog 27 #[.int .i64 5, .int .i64 o, .int .i64 me, .int .i64 view] w9 fun e w' => e = .returned (.agg #[.int .i64 5, .int .i64 o, .int .i64 me, .int .i64 1, .int .i64 view, .int .i64 0, .int .i64 0, .int .i64 0, .slice none 0 0, .int .i64 0, .int .i64 0, .int .i64 0, .bool false]) ∧ Below w9.heap.size w9 w' := from_c w9 5 o me view
        refine hF.mono ?_
        rintro e w10 ⟨rfl, b10⟩
        have N10 := Lib.hid (N9.out.past b10)
        clear b10 N9 hF
        cases inst
        · have KZ := Lib.hid (Blk.new w10 #[.int .i64 0, .int .i64 0, .int .i64 0, .int .i64 0, .int .i64 0, .int .i64 0, .int .i64 0, .int .i64 0, .slice none 0 0, .int .i64 0, .int .i64 0, .int .i64 0, .bool false] 47)
          have K7 := Lib.hid (Blk.row KZ.out #[.int .i64 5, .int .i64 o, .int .i64 me, .int .i64 1, .int .i64 view, .int .i64 0, .int .i64 0, .int .i64 0, .slice none 0 0, .int .i64 0, .int .i64 0, .int .i64 0, .bool false])
          have b7 := Lib.hid (((Below.refl w10.heap.size w10).alloc (Nat.le_refl _) (.cells #[.int .i64 0, .int .i64 0, .int .i64 0, .int .i64 0, .int .i64 0, .int .i64 0, .int .i64 0, .int .i64 0, .slice none 0 0, .int .i64 0, .int .i64 0, .int .i64 0, .bool false] 47)).trans (grown_below (grown_row (w10.alloc (.cells #[.int .i64 0, .int .i64 0, .int .i64 0, .int .i64 0, .int .i64 0, .int .i64 0, .int .i64 0, .int .i64 0, .slice none 0 0, .int .i64 0, .int .i64 0, .int .i64 0, .bool false] 47)) w10.heap.size #[.int .i64 5, .int .i64 o, .int .i64 me, .int .i64 1, .int .i64 view, .int .i64 0, .int .i64 0, .int .i64 0, .slice none 0 0, .int .i64 0, .int .i64 0, .int .i64 0, .bool false]) (Nat.le_refl _) (by simp)))
          have K8 := Lib.hid (show Blk ((w10.alloc (.cells #[.int .i64 0, .int .i64 0, .int .i64 0, .int .i64 0, .int .i64 0, .int .i64 0, .int .i64 0, .int .i64 0, .slice none 0 0, .int .i64 0, .int .i64 0, .int .i64 0, .bool false] 47)).setRow w10.heap.size #[.int .i64 5, .int .i64 o, .int .i64 me, .int .i64 1, .int .i64 view, .int .i64 0, .int .i64 0, .int .i64 0, .slice none 0 0, .int .i64 0, .int .i64 0, .int .i64 0, .bool false]) w10.heap.size 47 (mcs (lateM 5 o me view 0 []) none 0) from K7.out)
          have b8 : Hid (Below w10.heap.size w10 ((w10.alloc (.cells #[.int .i64 0, .int .i64 0, .int .i64 0, .int .i64 0, .int .i64 0, .int .i64 0, .int .i64 0, .int .i64 0, .slice none 0 0, .int .i64 0, .int .i64 0, .int .i64 0, .bool false] 47)).setRow w10.heap.size #[.int .i64 5, .int .i64 o, .int .i64 me, .int .i64 1, .int .i64 view, .int .i64 0, .int .i64 0, .int .i64 0, .slice none 0 0, .int .i64 0, .int .i64 0, .int .i64 0, .bool false])) := Lib.hid b7.out
          have N11 := Lib.hid (N10.out.past b8.out)
          have R11 := Lib.hid (HR0.out.past N11.out.bel)
          go_wp2_with ((with_reducible show wpList _ _ _ ((⟨none, Op.store 47 (.tmp 18) _, _, _, _, _⟩ : Oper) :: _) _ _); go_must (refine wpList_store_row rfl 47 (.tmp 18) (.tmp 86) rfl w10.heap.size _ rfl rfl _ _ KZ.out (by kernel_rfl) (by rfl) (by kernel_rfl) ?_))
          clear KZ K7 b7
          generalize ((w10.alloc (.cells #[.int .i64 0, .int .i64 0, .int .i64 0, .int .i64 0, .int .i64 0, .int .i64 0, .int .i64 0, .int .i64 0, .slice none 0 0, .int .i64 0, .int .i64 0, .int .i64 0, .bool false] 47)).setRow w10.heap.size #[.int .i64 5, .int .i64 o, .int .i64 me, .int .i64 1, .int .i64 view, .int .i64 0, .int .i64 0, .int .i64 0, .slice none 0 0, .int .i64 0, .int .i64 0, .int .i64 0, .bool false]) = w11 at *
          refine (rLog_c w11 _ A0 cap0 len0 z0 R11.out).mono ?_
          rintro e w12 ⟨A', c', rfl, o12, b12⟩
          have hL1 := PLog.log_len z0
          have hL2 : (PLog.log z0).all PEnt.may = true := by rw [List.all_eq_true]; exact PLog.okN_may _ _ (PLog.log_ok z0)
          generalize PLog.log z0 = L at *
          have K12 := Lib.hid (K8.out.past b12)
          have k8 : w12.cell? ⟨w10.heap.size, 8, none⟩ = some (.slice none 0 0) := K12.out.cell rfl
          have f8 := K12.out.free 8
          have g13 := grown_set w12 w10.heap.size 8 (.slice A' L.length c')
          have K13 := Lib.hid (show Blk (w12.setCell ⟨w10.heap.size, 8, none⟩ (.slice A' L.length c')) w10.heap.size 47 (mcs (lateM 5 o me view 0 L) A' c') from K12.out.set 8 _)
          have b13 := b8.out.trans (b12.mono b8.out.size)
          have N13 := Lib.hid (N10.out.past (b13.trans (grown_below g13 (Nat.le_refl _) b13.size)))
          have R13 := Lib.hid (Rd.of_own (own_apartB o12 K12.out (by decide) g13)).tight
          have HMA := Lib.hid (may_m (kind := 5) (id := o) (dst := me) (view := view) (mem := 0) (num := 0) (es := L) (yes := false) (by omega) (by omega) (by omega) (by omega) (by omega) (by omega) (by omega) hL1 hL2)
          clear o12 b12 g13 b13 b8 K8 K12 R11 N11 N10 hL1 hL2
          go_wp2_with ((with_reducible show wpList _ _ _ ((⟨some 98, Op.load _ _, _, _, _, _⟩ : Oper) :: _) _ _); go_must (refine wpList_load_row rfl 47 (.tmp 18) rfl w10.heap.size rfl 47 #[.int .i64 5, .int .i64 o, .int .i64 me, .int .i64 1, .int .i64 view, .int .i64 0, .int .i64 0, .int .i64 0, .slice A' L.length c', .int .i64 0, .int .i64 0, .int .i64 0, .bool false] (0, 0) _ K13.out Tryz.underlying47 rfl (by kernel_rfl) ?_))
          clear k8 f8 K13
          generalize w12.setCell ⟨w10.heap.size, 8, none⟩ (.slice A' L.length c') = w13 at *
          have HG2 : Hid (PGram.herr (({ quitP (gotP (newP me n 1 0) (fromM 1 q me promise)) promise with den := 0 } : Np)).id (({ quitP (gotP (newP me n 1 0) (fromM 1 q me promise)) promise with den := 0 } : Np)).G (some (lateM 5 o me view 0 L)) = 0) := Lib.hid (by
            have h9 : (PGram.at_ (({ quitP (gotP (newP me n 1 0) (fromM 1 q me promise)) promise with den := 0 } : Np)).G o).boot ≤ 1 := P9.out.G o
            show (if me ≠ me then (1 : Int) else if (1 : Int) < (PGram.at_ (({ quitP (gotP (newP me n 1 0) (fromM 1 q me promise)) promise with den := 0 } : Np)).G o).boot then 7 else 0) = 0
            rw [if_neg (by simp), if_neg (Int.not_lt.2 h9)])
          have HP2 : Hid (Pm me n promise (gotP ({ quitP (gotP (newP me n 1 0) (fromM 1 q me promise)) promise with den := 0 } : Np) (lateM 5 o me view 0 L))) := Lib.hid (P9.out.got rfl)
          refine (hearL_not N13.out (lateM 5 o me view 0 L) A' c' R13.out HT.out HMA.out HG2.out (fun w1 F1 A1 c1 h1 => hd_in_f5 h1 (lateM 5 o me view 0 L) A1 c1 rfl HP2.out.out)).mono ?_
          rintro e w14 ⟨Q, p', A2, c2, ⟨rfl, rfl⟩, rfl, -, n14, -⟩
          have N14 := Lib.hid n14
          clear n14 N13 R13 HMA HG2
          obtain ⟨F14, h14, -⟩ := N14.out.ex
          have H14 := Lib.hid h14
          clear h14
          go_wp2_with fail
          refine (ndLast_c H14.out).mono ?_
          rw [HP2.out.la]
          rintro e w15 ⟨rfl, rfl⟩
          go_wp2_with fail
          refine (ndLog_c H14.out HP2.out.L).mono ?_
          rintro e w16 ⟨A3, c3, rfl, b16⟩
          have H16 := Lib.hid (H14.out.past b16)
          have N16 := Lib.hid (N14.out.past b16)
          have D16 : Hid (Ds w16 d (gotP ({ quitP (gotP (newP me n 1 0) (fromM 1 q me promise)) promise with den := 0 } : Np) (lateM 5 o me view 0 L)).boot promise) := Lib.hid (by have := N16.out.disk; rw [HP2.out.pr] at this; exact this)
          clear b16 H14 N14
          go_wp2_with fail
          refine (view_c w16 d _ _ D16.out).mono ?_
          rintro e w17 ⟨rfl, rfl⟩
          go_wp2_with fail
          refine (ndTold_c H16.out).mono ?_
          rintro e w18 ⟨A4, c4, rfl, b18⟩
          have hT0 : (gotP ({ quitP (gotP (newP me n 1 0) (fromM 1 q me promise)) promise with den := 0 } : Np) (lateM 5 o me view 0 L)).T.length = 0 := rfl
          rw [hT0]
          have N18 := Lib.hid (N16.out.past b18)
          clear b18 H16 N16 hT0
          go_wp2_with fail
          go_ret
          exact ⟨by simp, N18.out.bel⟩
        · obtain rfl | rfl | rfl | rfl | rfl : n = 3 ∨ n = 4 ∨ n = 5 ∨ n = 6 ∨ n = 7 := by omega
          · have KZ := Lib.hid (Blk.new w10 #[.int .i64 0, .int .i64 0, .int .i64 0, .int .i64 0, .int .i64 0, .int .i64 0, .int .i64 0, .int .i64 0, .slice none 0 0, .int .i64 0, .int .i64 0, .int .i64 0, .bool false] 47)
            have K7 := Lib.hid (Blk.row KZ.out #[.int .i64 5, .int .i64 o, .int .i64 me, .int .i64 1, .int .i64 view, .int .i64 0, .int .i64 0, .int .i64 0, .slice none 0 0, .int .i64 0, .int .i64 0, .int .i64 0, .bool false])
            have b7 := Lib.hid (((Below.refl w10.heap.size w10).alloc (Nat.le_refl _) (.cells #[.int .i64 0, .int .i64 0, .int .i64 0, .int .i64 0, .int .i64 0, .int .i64 0, .int .i64 0, .int .i64 0, .slice none 0 0, .int .i64 0, .int .i64 0, .int .i64 0, .bool false] 47)).trans (grown_below (grown_row (w10.alloc (.cells #[.int .i64 0, .int .i64 0, .int .i64 0, .int .i64 0, .int .i64 0, .int .i64 0, .int .i64 0, .int .i64 0, .slice none 0 0, .int .i64 0, .int .i64 0, .int .i64 0, .bool false] 47)) w10.heap.size #[.int .i64 5, .int .i64 o, .int .i64 me, .int .i64 1, .int .i64 view, .int .i64 0, .int .i64 0, .int .i64 0, .slice none 0 0, .int .i64 0, .int .i64 0, .int .i64 0, .bool false]) (Nat.le_refl _) (by simp)))
            have k0 : ((w10.alloc (.cells #[.int .i64 0, .int .i64 0, .int .i64 0, .int .i64 0, .int .i64 0, .int .i64 0, .int .i64 0, .int .i64 0, .slice none 0 0, .int .i64 0, .int .i64 0, .int .i64 0, .bool false] 47)).setRow w10.heap.size #[.int .i64 5, .int .i64 o, .int .i64 me, .int .i64 1, .int .i64 view, .int .i64 0, .int .i64 0, .int .i64 0, .slice none 0 0, .int .i64 0, .int .i64 0, .int .i64 0, .bool false]).cell? ⟨w10.heap.size, 0, none⟩ = some (.int .i64 5) := K7.out.cell rfl
            have f0 := K7.out.free 0
            have K6 := Lib.hid (show Blk (((w10.alloc (.cells #[.int .i64 0, .int .i64 0, .int .i64 0, .int .i64 0, .int .i64 0, .int .i64 0, .int .i64 0, .int .i64 0, .slice none 0 0, .int .i64 0, .int .i64 0, .int .i64 0, .bool false] 47)).setRow w10.heap.size #[.int .i64 5, .int .i64 o, .int .i64 me, .int .i64 1, .int .i64 view, .int .i64 0, .int .i64 0, .int .i64 0, .slice none 0 0, .int .i64 0, .int .i64 0, .int .i64 0, .bool false]).setCell ⟨w10.heap.size, 0, none⟩ (.int .i64 4)) w10.heap.size 47 (mcs (lateM 4 o me view 0 []) none 0) from K7.out.set 0 _)
            have k6 : (((w10.alloc (.cells #[.int .i64 0, .int .i64 0, .int .i64 0, .int .i64 0, .int .i64 0, .int .i64 0, .int .i64 0, .int .i64 0, .slice none 0 0, .int .i64 0, .int .i64 0, .int .i64 0, .bool false] 47)).setRow w10.heap.size #[.int .i64 5, .int .i64 o, .int .i64 me, .int .i64 1, .int .i64 view, .int .i64 0, .int .i64 0, .int .i64 0, .slice none 0 0, .int .i64 0, .int .i64 0, .int .i64 0, .bool false]).setCell ⟨w10.heap.size, 0, none⟩ (.int .i64 4)).cell? ⟨w10.heap.size, 6, none⟩ = some (.int .i64 0) := K6.out.cell rfl
            have f6 := K6.out.free 6
            have K8 := Lib.hid (show Blk ((((w10.alloc (.cells #[.int .i64 0, .int .i64 0, .int .i64 0, .int .i64 0, .int .i64 0, .int .i64 0, .int .i64 0, .int .i64 0, .slice none 0 0, .int .i64 0, .int .i64 0, .int .i64 0, .bool false] 47)).setRow w10.heap.size #[.int .i64 5, .int .i64 o, .int .i64 me, .int .i64 1, .int .i64 view, .int .i64 0, .int .i64 0, .int .i64 0, .slice none 0 0, .int .i64 0, .int .i64 0, .int .i64 0, .bool false]).setCell ⟨w10.heap.size, 0, none⟩ (.int .i64 4)).setCell ⟨w10.heap.size, 6, none⟩ (.int .i64 7)) w10.heap.size 47 (mcs (lateM 4 o me view 7 []) none 0) from K6.out.set 6 _)
            have b8 : Hid (Below w10.heap.size w10 ((((w10.alloc (.cells #[.int .i64 0, .int .i64 0, .int .i64 0, .int .i64 0, .int .i64 0, .int .i64 0, .int .i64 0, .int .i64 0, .slice none 0 0, .int .i64 0, .int .i64 0, .int .i64 0, .bool false] 47)).setRow w10.heap.size #[.int .i64 5, .int .i64 o, .int .i64 me, .int .i64 1, .int .i64 view, .int .i64 0, .int .i64 0, .int .i64 0, .slice none 0 0, .int .i64 0, .int .i64 0, .int .i64 0, .bool false]).setCell ⟨w10.heap.size, 0, none⟩ (.int .i64 4)).setCell ⟨w10.heap.size, 6, none⟩ (.int .i64 7))) := Lib.hid (by
              have q1 := b7.out.trans (grown_below (grown_set ((w10.alloc (.cells #[.int .i64 0, .int .i64 0, .int .i64 0, .int .i64 0, .int .i64 0, .int .i64 0, .int .i64 0, .int .i64 0, .slice none 0 0, .int .i64 0, .int .i64 0, .int .i64 0, .bool false] 47)).setRow w10.heap.size #[.int .i64 5, .int .i64 o, .int .i64 me, .int .i64 1, .int .i64 view, .int .i64 0, .int .i64 0, .int .i64 0, .slice none 0 0, .int .i64 0, .int .i64 0, .int .i64 0, .bool false]) w10.heap.size 0 (.int .i64 4)) (Nat.le_refl _) b7.out.size)
              exact q1.trans (grown_below (grown_set (((w10.alloc (.cells #[.int .i64 0, .int .i64 0, .int .i64 0, .int .i64 0, .int .i64 0, .int .i64 0, .int .i64 0, .int .i64 0, .slice none 0 0, .int .i64 0, .int .i64 0, .int .i64 0, .bool false] 47)).setRow w10.heap.size #[.int .i64 5, .int .i64 o, .int .i64 me, .int .i64 1, .int .i64 view, .int .i64 0, .int .i64 0, .int .i64 0, .slice none 0 0, .int .i64 0, .int .i64 0, .int .i64 0, .bool false]).setCell ⟨w10.heap.size, 0, none⟩ (.int .i64 4)) w10.heap.size 6 (.int .i64 7)) (Nat.le_refl _) q1.size))
            have N11 := Lib.hid (N10.out.past b8.out)
            have R11 := Lib.hid (HR0.out.past N11.out.bel)
            go_wp2_with ((with_reducible show wpList _ _ _ ((⟨none, Op.store 47 (.tmp 18) _, _, _, _, _⟩ : Oper) :: _) _ _); go_must (refine wpList_store_row rfl 47 (.tmp 18) (.tmp 86) rfl w10.heap.size _ rfl rfl _ _ KZ.out (by kernel_rfl) (by rfl) (by kernel_rfl) ?_))
            clear KZ K7 b7 k0 f0 k6 f6 K6
            generalize ((((w10.alloc (.cells #[.int .i64 0, .int .i64 0, .int .i64 0, .int .i64 0, .int .i64 0, .int .i64 0, .int .i64 0, .int .i64 0, .slice none 0 0, .int .i64 0, .int .i64 0, .int .i64 0, .bool false] 47)).setRow w10.heap.size #[.int .i64 5, .int .i64 o, .int .i64 me, .int .i64 1, .int .i64 view, .int .i64 0, .int .i64 0, .int .i64 0, .slice none 0 0, .int .i64 0, .int .i64 0, .int .i64 0, .bool false]).setCell ⟨w10.heap.size, 0, none⟩ (.int .i64 4)).setCell ⟨w10.heap.size, 6, none⟩ (.int .i64 7)) = w11 at *
            refine (rLog_c w11 _ A0 cap0 len0 z0 R11.out).mono ?_
            rintro e w12 ⟨A', c', rfl, o12, b12⟩
            have hL1 := PLog.log_len z0
            have hL2 : (PLog.log z0).all PEnt.may = true := by rw [List.all_eq_true]; exact PLog.okN_may _ _ (PLog.log_ok z0)
            generalize PLog.log z0 = L at *
            have K12 := Lib.hid (K8.out.past b12)
            have k8 : w12.cell? ⟨w10.heap.size, 8, none⟩ = some (.slice none 0 0) := K12.out.cell rfl
            have f8 := K12.out.free 8
            have g13 := grown_set w12 w10.heap.size 8 (.slice A' L.length c')
            have K13 := Lib.hid (show Blk (w12.setCell ⟨w10.heap.size, 8, none⟩ (.slice A' L.length c')) w10.heap.size 47 (mcs (lateM 4 o me view 7 L) A' c') from K12.out.set 8 _)
            have b13 := b8.out.trans (b12.mono b8.out.size)
            have N13 := Lib.hid (N10.out.past (b13.trans (grown_below g13 (Nat.le_refl _) b13.size)))
            have R13 := Lib.hid (Rd.of_own (own_apartB o12 K12.out (by decide) g13)).tight
            have HMA := Lib.hid (may_m (kind := 4) (id := o) (dst := me) (view := view) (mem := 7) (num := 0) (es := L) (yes := false) (by omega) (by omega) (by omega) (by omega) (by omega) (by omega) (by omega) hL1 hL2)
            clear o12 b12 g13 b13 b8 K8 K12 R11 N11 N10 hL1 hL2
            go_wp2_with ((with_reducible show wpList _ _ _ ((⟨some 98, Op.load _ _, _, _, _, _⟩ : Oper) :: _) _ _); go_must (refine wpList_load_row rfl 47 (.tmp 18) rfl w10.heap.size rfl 47 #[.int .i64 4, .int .i64 o, .int .i64 me, .int .i64 1, .int .i64 view, .int .i64 0, .int .i64 7, .int .i64 0, .slice A' L.length c', .int .i64 0, .int .i64 0, .int .i64 0, .bool false] (0, 0) _ K13.out Tryz.underlying47 rfl (by kernel_rfl) ?_))
            clear k8 f8 K13
            generalize w12.setCell ⟨w10.heap.size, 8, none⟩ (.slice A' L.length c') = w13 at *
            have HG2 : Hid (PGram.herr (({ quitP (gotP (newP me 3 1 0) (fromM 1 q me promise)) promise with den := 0 } : Np)).id (({ quitP (gotP (newP me 3 1 0) (fromM 1 q me promise)) promise with den := 0 } : Np)).G (some (lateM 4 o me view 7 L)) = 0) := Lib.hid (by
              have h9 : (PGram.at_ (({ quitP (gotP (newP me 3 1 0) (fromM 1 q me promise)) promise with den := 0 } : Np)).G o).boot ≤ 1 := P9.out.G o
              show (if me ≠ me then (1 : Int) else if (1 : Int) < (PGram.at_ (({ quitP (gotP (newP me 3 1 0) (fromM 1 q me promise)) promise with den := 0 } : Np)).G o).boot then 7 else 0) = 0
              rw [if_neg (by simp), if_neg (Int.not_lt.2 h9)])
            have HP2 : Hid (Pm me 3 promise (gotP ({ quitP (gotP (newP me 3 1 0) (fromM 1 q me promise)) promise with den := 0 } : Np) (lateM 4 o me view 7 L))) := Lib.hid (P9.out.got rfl)
            refine (hearL_not N13.out (lateM 4 o me view 7 L) A' c' R13.out HT.out HMA.out HG2.out (fun w1 F1 A1 c1 h1 => hd_inst_late h1 (lateM 4 o me view 7 L) A1 c1 rfl HP2.out.kn (by show view < _; rw [HP2.out.pr]; exact g4))).mono ?_
            rintro e w14 ⟨Q, p', A2, c2, ⟨rfl, rfl⟩, rfl, -, n14, -⟩
            have N14 := Lib.hid n14
            clear n14 N13 R13 HMA HG2
            obtain ⟨F14, h14, -⟩ := N14.out.ex
            have H14 := Lib.hid h14
            clear h14
            go_wp2_with fail
            refine (ndLast_c H14.out).mono ?_
            rw [HP2.out.la]
            rintro e w15 ⟨rfl, rfl⟩
            go_wp2_with fail
            refine (ndLog_c H14.out HP2.out.L).mono ?_
            rintro e w16 ⟨A3, c3, rfl, b16⟩
            have H16 := Lib.hid (H14.out.past b16)
            have N16 := Lib.hid (N14.out.past b16)
            have D16 : Hid (Ds w16 d (gotP ({ quitP (gotP (newP me 3 1 0) (fromM 1 q me promise)) promise with den := 0 } : Np) (lateM 4 o me view 7 L)).boot promise) := Lib.hid (by have := N16.out.disk; rw [HP2.out.pr] at this; exact this)
            clear b16 H14 N14
            go_wp2_with fail
            refine (view_c w16 d _ _ D16.out).mono ?_
            rintro e w17 ⟨rfl, rfl⟩
            go_wp2_with fail
            refine (ndTold_c H16.out).mono ?_
            rintro e w18 ⟨A4, c4, rfl, b18⟩
            have hT0 : (gotP ({ quitP (gotP (newP me 3 1 0) (fromM 1 q me promise)) promise with den := 0 } : Np) (lateM 4 o me view 7 L)).T.length = 0 := rfl
            rw [hT0]
            have N18 := Lib.hid (N16.out.past b18)
            clear b18 H16 N16 hT0
            go_wp2_with fail
            go_ret
            exact ⟨by simp, N18.out.bel⟩
          · have KZ := Lib.hid (Blk.new w10 #[.int .i64 0, .int .i64 0, .int .i64 0, .int .i64 0, .int .i64 0, .int .i64 0, .int .i64 0, .int .i64 0, .slice none 0 0, .int .i64 0, .int .i64 0, .int .i64 0, .bool false] 47)
            have K7 := Lib.hid (Blk.row KZ.out #[.int .i64 5, .int .i64 o, .int .i64 me, .int .i64 1, .int .i64 view, .int .i64 0, .int .i64 0, .int .i64 0, .slice none 0 0, .int .i64 0, .int .i64 0, .int .i64 0, .bool false])
            have b7 := Lib.hid (((Below.refl w10.heap.size w10).alloc (Nat.le_refl _) (.cells #[.int .i64 0, .int .i64 0, .int .i64 0, .int .i64 0, .int .i64 0, .int .i64 0, .int .i64 0, .int .i64 0, .slice none 0 0, .int .i64 0, .int .i64 0, .int .i64 0, .bool false] 47)).trans (grown_below (grown_row (w10.alloc (.cells #[.int .i64 0, .int .i64 0, .int .i64 0, .int .i64 0, .int .i64 0, .int .i64 0, .int .i64 0, .int .i64 0, .slice none 0 0, .int .i64 0, .int .i64 0, .int .i64 0, .bool false] 47)) w10.heap.size #[.int .i64 5, .int .i64 o, .int .i64 me, .int .i64 1, .int .i64 view, .int .i64 0, .int .i64 0, .int .i64 0, .slice none 0 0, .int .i64 0, .int .i64 0, .int .i64 0, .bool false]) (Nat.le_refl _) (by simp)))
            have k0 : ((w10.alloc (.cells #[.int .i64 0, .int .i64 0, .int .i64 0, .int .i64 0, .int .i64 0, .int .i64 0, .int .i64 0, .int .i64 0, .slice none 0 0, .int .i64 0, .int .i64 0, .int .i64 0, .bool false] 47)).setRow w10.heap.size #[.int .i64 5, .int .i64 o, .int .i64 me, .int .i64 1, .int .i64 view, .int .i64 0, .int .i64 0, .int .i64 0, .slice none 0 0, .int .i64 0, .int .i64 0, .int .i64 0, .bool false]).cell? ⟨w10.heap.size, 0, none⟩ = some (.int .i64 5) := K7.out.cell rfl
            have f0 := K7.out.free 0
            have K6 := Lib.hid (show Blk (((w10.alloc (.cells #[.int .i64 0, .int .i64 0, .int .i64 0, .int .i64 0, .int .i64 0, .int .i64 0, .int .i64 0, .int .i64 0, .slice none 0 0, .int .i64 0, .int .i64 0, .int .i64 0, .bool false] 47)).setRow w10.heap.size #[.int .i64 5, .int .i64 o, .int .i64 me, .int .i64 1, .int .i64 view, .int .i64 0, .int .i64 0, .int .i64 0, .slice none 0 0, .int .i64 0, .int .i64 0, .int .i64 0, .bool false]).setCell ⟨w10.heap.size, 0, none⟩ (.int .i64 4)) w10.heap.size 47 (mcs (lateM 4 o me view 0 []) none 0) from K7.out.set 0 _)
            have k6 : (((w10.alloc (.cells #[.int .i64 0, .int .i64 0, .int .i64 0, .int .i64 0, .int .i64 0, .int .i64 0, .int .i64 0, .int .i64 0, .slice none 0 0, .int .i64 0, .int .i64 0, .int .i64 0, .bool false] 47)).setRow w10.heap.size #[.int .i64 5, .int .i64 o, .int .i64 me, .int .i64 1, .int .i64 view, .int .i64 0, .int .i64 0, .int .i64 0, .slice none 0 0, .int .i64 0, .int .i64 0, .int .i64 0, .bool false]).setCell ⟨w10.heap.size, 0, none⟩ (.int .i64 4)).cell? ⟨w10.heap.size, 6, none⟩ = some (.int .i64 0) := K6.out.cell rfl
            have f6 := K6.out.free 6
            have K8 := Lib.hid (show Blk ((((w10.alloc (.cells #[.int .i64 0, .int .i64 0, .int .i64 0, .int .i64 0, .int .i64 0, .int .i64 0, .int .i64 0, .int .i64 0, .slice none 0 0, .int .i64 0, .int .i64 0, .int .i64 0, .bool false] 47)).setRow w10.heap.size #[.int .i64 5, .int .i64 o, .int .i64 me, .int .i64 1, .int .i64 view, .int .i64 0, .int .i64 0, .int .i64 0, .slice none 0 0, .int .i64 0, .int .i64 0, .int .i64 0, .bool false]).setCell ⟨w10.heap.size, 0, none⟩ (.int .i64 4)).setCell ⟨w10.heap.size, 6, none⟩ (.int .i64 15)) w10.heap.size 47 (mcs (lateM 4 o me view 15 []) none 0) from K6.out.set 6 _)
            have b8 : Hid (Below w10.heap.size w10 ((((w10.alloc (.cells #[.int .i64 0, .int .i64 0, .int .i64 0, .int .i64 0, .int .i64 0, .int .i64 0, .int .i64 0, .int .i64 0, .slice none 0 0, .int .i64 0, .int .i64 0, .int .i64 0, .bool false] 47)).setRow w10.heap.size #[.int .i64 5, .int .i64 o, .int .i64 me, .int .i64 1, .int .i64 view, .int .i64 0, .int .i64 0, .int .i64 0, .slice none 0 0, .int .i64 0, .int .i64 0, .int .i64 0, .bool false]).setCell ⟨w10.heap.size, 0, none⟩ (.int .i64 4)).setCell ⟨w10.heap.size, 6, none⟩ (.int .i64 15))) := Lib.hid (by
              have q1 := b7.out.trans (grown_below (grown_set ((w10.alloc (.cells #[.int .i64 0, .int .i64 0, .int .i64 0, .int .i64 0, .int .i64 0, .int .i64 0, .int .i64 0, .int .i64 0, .slice none 0 0, .int .i64 0, .int .i64 0, .int .i64 0, .bool false] 47)).setRow w10.heap.size #[.int .i64 5, .int .i64 o, .int .i64 me, .int .i64 1, .int .i64 view, .int .i64 0, .int .i64 0, .int .i64 0, .slice none 0 0, .int .i64 0, .int .i64 0, .int .i64 0, .bool false]) w10.heap.size 0 (.int .i64 4)) (Nat.le_refl _) b7.out.size)
              exact q1.trans (grown_below (grown_set (((w10.alloc (.cells #[.int .i64 0, .int .i64 0, .int .i64 0, .int .i64 0, .int .i64 0, .int .i64 0, .int .i64 0, .int .i64 0, .slice none 0 0, .int .i64 0, .int .i64 0, .int .i64 0, .bool false] 47)).setRow w10.heap.size #[.int .i64 5, .int .i64 o, .int .i64 me, .int .i64 1, .int .i64 view, .int .i64 0, .int .i64 0, .int .i64 0, .slice none 0 0, .int .i64 0, .int .i64 0, .int .i64 0, .bool false]).setCell ⟨w10.heap.size, 0, none⟩ (.int .i64 4)) w10.heap.size 6 (.int .i64 15)) (Nat.le_refl _) q1.size))
            have N11 := Lib.hid (N10.out.past b8.out)
            have R11 := Lib.hid (HR0.out.past N11.out.bel)
            go_wp2_with ((with_reducible show wpList _ _ _ ((⟨none, Op.store 47 (.tmp 18) _, _, _, _, _⟩ : Oper) :: _) _ _); go_must (refine wpList_store_row rfl 47 (.tmp 18) (.tmp 86) rfl w10.heap.size _ rfl rfl _ _ KZ.out (by kernel_rfl) (by rfl) (by kernel_rfl) ?_))
            clear KZ K7 b7 k0 f0 k6 f6 K6
            generalize ((((w10.alloc (.cells #[.int .i64 0, .int .i64 0, .int .i64 0, .int .i64 0, .int .i64 0, .int .i64 0, .int .i64 0, .int .i64 0, .slice none 0 0, .int .i64 0, .int .i64 0, .int .i64 0, .bool false] 47)).setRow w10.heap.size #[.int .i64 5, .int .i64 o, .int .i64 me, .int .i64 1, .int .i64 view, .int .i64 0, .int .i64 0, .int .i64 0, .slice none 0 0, .int .i64 0, .int .i64 0, .int .i64 0, .bool false]).setCell ⟨w10.heap.size, 0, none⟩ (.int .i64 4)).setCell ⟨w10.heap.size, 6, none⟩ (.int .i64 15)) = w11 at *
            refine (rLog_c w11 _ A0 cap0 len0 z0 R11.out).mono ?_
            rintro e w12 ⟨A', c', rfl, o12, b12⟩
            have hL1 := PLog.log_len z0
            have hL2 : (PLog.log z0).all PEnt.may = true := by rw [List.all_eq_true]; exact PLog.okN_may _ _ (PLog.log_ok z0)
            generalize PLog.log z0 = L at *
            have K12 := Lib.hid (K8.out.past b12)
            have k8 : w12.cell? ⟨w10.heap.size, 8, none⟩ = some (.slice none 0 0) := K12.out.cell rfl
            have f8 := K12.out.free 8
            have g13 := grown_set w12 w10.heap.size 8 (.slice A' L.length c')
            have K13 := Lib.hid (show Blk (w12.setCell ⟨w10.heap.size, 8, none⟩ (.slice A' L.length c')) w10.heap.size 47 (mcs (lateM 4 o me view 15 L) A' c') from K12.out.set 8 _)
            have b13 := b8.out.trans (b12.mono b8.out.size)
            have N13 := Lib.hid (N10.out.past (b13.trans (grown_below g13 (Nat.le_refl _) b13.size)))
            have R13 := Lib.hid (Rd.of_own (own_apartB o12 K12.out (by decide) g13)).tight
            have HMA := Lib.hid (may_m (kind := 4) (id := o) (dst := me) (view := view) (mem := 15) (num := 0) (es := L) (yes := false) (by omega) (by omega) (by omega) (by omega) (by omega) (by omega) (by omega) hL1 hL2)
            clear o12 b12 g13 b13 b8 K8 K12 R11 N11 N10 hL1 hL2
            go_wp2_with ((with_reducible show wpList _ _ _ ((⟨some 98, Op.load _ _, _, _, _, _⟩ : Oper) :: _) _ _); go_must (refine wpList_load_row rfl 47 (.tmp 18) rfl w10.heap.size rfl 47 #[.int .i64 4, .int .i64 o, .int .i64 me, .int .i64 1, .int .i64 view, .int .i64 0, .int .i64 15, .int .i64 0, .slice A' L.length c', .int .i64 0, .int .i64 0, .int .i64 0, .bool false] (0, 0) _ K13.out Tryz.underlying47 rfl (by kernel_rfl) ?_))
            clear k8 f8 K13
            generalize w12.setCell ⟨w10.heap.size, 8, none⟩ (.slice A' L.length c') = w13 at *
            have HG2 : Hid (PGram.herr (({ quitP (gotP (newP me 4 1 0) (fromM 1 q me promise)) promise with den := 0 } : Np)).id (({ quitP (gotP (newP me 4 1 0) (fromM 1 q me promise)) promise with den := 0 } : Np)).G (some (lateM 4 o me view 15 L)) = 0) := Lib.hid (by
              have h9 : (PGram.at_ (({ quitP (gotP (newP me 4 1 0) (fromM 1 q me promise)) promise with den := 0 } : Np)).G o).boot ≤ 1 := P9.out.G o
              show (if me ≠ me then (1 : Int) else if (1 : Int) < (PGram.at_ (({ quitP (gotP (newP me 4 1 0) (fromM 1 q me promise)) promise with den := 0 } : Np)).G o).boot then 7 else 0) = 0
              rw [if_neg (by simp), if_neg (Int.not_lt.2 h9)])
            have HP2 : Hid (Pm me 4 promise (gotP ({ quitP (gotP (newP me 4 1 0) (fromM 1 q me promise)) promise with den := 0 } : Np) (lateM 4 o me view 15 L))) := Lib.hid (P9.out.got rfl)
            refine (hearL_not N13.out (lateM 4 o me view 15 L) A' c' R13.out HT.out HMA.out HG2.out (fun w1 F1 A1 c1 h1 => hd_inst_late h1 (lateM 4 o me view 15 L) A1 c1 rfl HP2.out.kn (by show view < _; rw [HP2.out.pr]; exact g4))).mono ?_
            rintro e w14 ⟨Q, p', A2, c2, ⟨rfl, rfl⟩, rfl, -, n14, -⟩
            have N14 := Lib.hid n14
            clear n14 N13 R13 HMA HG2
            obtain ⟨F14, h14, -⟩ := N14.out.ex
            have H14 := Lib.hid h14
            clear h14
            go_wp2_with fail
            refine (ndLast_c H14.out).mono ?_
            rw [HP2.out.la]
            rintro e w15 ⟨rfl, rfl⟩
            go_wp2_with fail
            refine (ndLog_c H14.out HP2.out.L).mono ?_
            rintro e w16 ⟨A3, c3, rfl, b16⟩
            have H16 := Lib.hid (H14.out.past b16)
            have N16 := Lib.hid (N14.out.past b16)
            have D16 : Hid (Ds w16 d (gotP ({ quitP (gotP (newP me 4 1 0) (fromM 1 q me promise)) promise with den := 0 } : Np) (lateM 4 o me view 15 L)).boot promise) := Lib.hid (by have := N16.out.disk; rw [HP2.out.pr] at this; exact this)
            clear b16 H14 N14
            go_wp2_with fail
            refine (view_c w16 d _ _ D16.out).mono ?_
            rintro e w17 ⟨rfl, rfl⟩
            go_wp2_with fail
            refine (ndTold_c H16.out).mono ?_
            rintro e w18 ⟨A4, c4, rfl, b18⟩
            have hT0 : (gotP ({ quitP (gotP (newP me 4 1 0) (fromM 1 q me promise)) promise with den := 0 } : Np) (lateM 4 o me view 15 L)).T.length = 0 := rfl
            rw [hT0]
            have N18 := Lib.hid (N16.out.past b18)
            clear b18 H16 N16 hT0
            go_wp2_with fail
            go_ret
            exact ⟨by simp, N18.out.bel⟩
          · have KZ := Lib.hid (Blk.new w10 #[.int .i64 0, .int .i64 0, .int .i64 0, .int .i64 0, .int .i64 0, .int .i64 0, .int .i64 0, .int .i64 0, .slice none 0 0, .int .i64 0, .int .i64 0, .int .i64 0, .bool false] 47)
            have K7 := Lib.hid (Blk.row KZ.out #[.int .i64 5, .int .i64 o, .int .i64 me, .int .i64 1, .int .i64 view, .int .i64 0, .int .i64 0, .int .i64 0, .slice none 0 0, .int .i64 0, .int .i64 0, .int .i64 0, .bool false])
            have b7 := Lib.hid (((Below.refl w10.heap.size w10).alloc (Nat.le_refl _) (.cells #[.int .i64 0, .int .i64 0, .int .i64 0, .int .i64 0, .int .i64 0, .int .i64 0, .int .i64 0, .int .i64 0, .slice none 0 0, .int .i64 0, .int .i64 0, .int .i64 0, .bool false] 47)).trans (grown_below (grown_row (w10.alloc (.cells #[.int .i64 0, .int .i64 0, .int .i64 0, .int .i64 0, .int .i64 0, .int .i64 0, .int .i64 0, .int .i64 0, .slice none 0 0, .int .i64 0, .int .i64 0, .int .i64 0, .bool false] 47)) w10.heap.size #[.int .i64 5, .int .i64 o, .int .i64 me, .int .i64 1, .int .i64 view, .int .i64 0, .int .i64 0, .int .i64 0, .slice none 0 0, .int .i64 0, .int .i64 0, .int .i64 0, .bool false]) (Nat.le_refl _) (by simp)))
            have k0 : ((w10.alloc (.cells #[.int .i64 0, .int .i64 0, .int .i64 0, .int .i64 0, .int .i64 0, .int .i64 0, .int .i64 0, .int .i64 0, .slice none 0 0, .int .i64 0, .int .i64 0, .int .i64 0, .bool false] 47)).setRow w10.heap.size #[.int .i64 5, .int .i64 o, .int .i64 me, .int .i64 1, .int .i64 view, .int .i64 0, .int .i64 0, .int .i64 0, .slice none 0 0, .int .i64 0, .int .i64 0, .int .i64 0, .bool false]).cell? ⟨w10.heap.size, 0, none⟩ = some (.int .i64 5) := K7.out.cell rfl
            have f0 := K7.out.free 0
            have K6 := Lib.hid (show Blk (((w10.alloc (.cells #[.int .i64 0, .int .i64 0, .int .i64 0, .int .i64 0, .int .i64 0, .int .i64 0, .int .i64 0, .int .i64 0, .slice none 0 0, .int .i64 0, .int .i64 0, .int .i64 0, .bool false] 47)).setRow w10.heap.size #[.int .i64 5, .int .i64 o, .int .i64 me, .int .i64 1, .int .i64 view, .int .i64 0, .int .i64 0, .int .i64 0, .slice none 0 0, .int .i64 0, .int .i64 0, .int .i64 0, .bool false]).setCell ⟨w10.heap.size, 0, none⟩ (.int .i64 4)) w10.heap.size 47 (mcs (lateM 4 o me view 0 []) none 0) from K7.out.set 0 _)
            have k6 : (((w10.alloc (.cells #[.int .i64 0, .int .i64 0, .int .i64 0, .int .i64 0, .int .i64 0, .int .i64 0, .int .i64 0, .int .i64 0, .slice none 0 0, .int .i64 0, .int .i64 0, .int .i64 0, .bool false] 47)).setRow w10.heap.size #[.int .i64 5, .int .i64 o, .int .i64 me, .int .i64 1, .int .i64 view, .int .i64 0, .int .i64 0, .int .i64 0, .slice none 0 0, .int .i64 0, .int .i64 0, .int .i64 0, .bool false]).setCell ⟨w10.heap.size, 0, none⟩ (.int .i64 4)).cell? ⟨w10.heap.size, 6, none⟩ = some (.int .i64 0) := K6.out.cell rfl
            have f6 := K6.out.free 6
            have K8 := Lib.hid (show Blk ((((w10.alloc (.cells #[.int .i64 0, .int .i64 0, .int .i64 0, .int .i64 0, .int .i64 0, .int .i64 0, .int .i64 0, .int .i64 0, .slice none 0 0, .int .i64 0, .int .i64 0, .int .i64 0, .bool false] 47)).setRow w10.heap.size #[.int .i64 5, .int .i64 o, .int .i64 me, .int .i64 1, .int .i64 view, .int .i64 0, .int .i64 0, .int .i64 0, .slice none 0 0, .int .i64 0, .int .i64 0, .int .i64 0, .bool false]).setCell ⟨w10.heap.size, 0, none⟩ (.int .i64 4)).setCell ⟨w10.heap.size, 6, none⟩ (.int .i64 31)) w10.heap.size 47 (mcs (lateM 4 o me view 31 []) none 0) from K6.out.set 6 _)
            have b8 : Hid (Below w10.heap.size w10 ((((w10.alloc (.cells #[.int .i64 0, .int .i64 0, .int .i64 0, .int .i64 0, .int .i64 0, .int .i64 0, .int .i64 0, .int .i64 0, .slice none 0 0, .int .i64 0, .int .i64 0, .int .i64 0, .bool false] 47)).setRow w10.heap.size #[.int .i64 5, .int .i64 o, .int .i64 me, .int .i64 1, .int .i64 view, .int .i64 0, .int .i64 0, .int .i64 0, .slice none 0 0, .int .i64 0, .int .i64 0, .int .i64 0, .bool false]).setCell ⟨w10.heap.size, 0, none⟩ (.int .i64 4)).setCell ⟨w10.heap.size, 6, none⟩ (.int .i64 31))) := Lib.hid (by
              have q1 := b7.out.trans (grown_below (grown_set ((w10.alloc (.cells #[.int .i64 0, .int .i64 0, .int .i64 0, .int .i64 0, .int .i64 0, .int .i64 0, .int .i64 0, .int .i64 0, .slice none 0 0, .int .i64 0, .int .i64 0, .int .i64 0, .bool false] 47)).setRow w10.heap.size #[.int .i64 5, .int .i64 o, .int .i64 me, .int .i64 1, .int .i64 view, .int .i64 0, .int .i64 0, .int .i64 0, .slice none 0 0, .int .i64 0, .int .i64 0, .int .i64 0, .bool false]) w10.heap.size 0 (.int .i64 4)) (Nat.le_refl _) b7.out.size)
              exact q1.trans (grown_below (grown_set (((w10.alloc (.cells #[.int .i64 0, .int .i64 0, .int .i64 0, .int .i64 0, .int .i64 0, .int .i64 0, .int .i64 0, .int .i64 0, .slice none 0 0, .int .i64 0, .int .i64 0, .int .i64 0, .bool false] 47)).setRow w10.heap.size #[.int .i64 5, .int .i64 o, .int .i64 me, .int .i64 1, .int .i64 view, .int .i64 0, .int .i64 0, .int .i64 0, .slice none 0 0, .int .i64 0, .int .i64 0, .int .i64 0, .bool false]).setCell ⟨w10.heap.size, 0, none⟩ (.int .i64 4)) w10.heap.size 6 (.int .i64 31)) (Nat.le_refl _) q1.size))
            have N11 := Lib.hid (N10.out.past b8.out)
            have R11 := Lib.hid (HR0.out.past N11.out.bel)
            go_wp2_with ((with_reducible show wpList _ _ _ ((⟨none, Op.store 47 (.tmp 18) _, _, _, _, _⟩ : Oper) :: _) _ _); go_must (refine wpList_store_row rfl 47 (.tmp 18) (.tmp 86) rfl w10.heap.size _ rfl rfl _ _ KZ.out (by kernel_rfl) (by rfl) (by kernel_rfl) ?_))
            clear KZ K7 b7 k0 f0 k6 f6 K6
            generalize ((((w10.alloc (.cells #[.int .i64 0, .int .i64 0, .int .i64 0, .int .i64 0, .int .i64 0, .int .i64 0, .int .i64 0, .int .i64 0, .slice none 0 0, .int .i64 0, .int .i64 0, .int .i64 0, .bool false] 47)).setRow w10.heap.size #[.int .i64 5, .int .i64 o, .int .i64 me, .int .i64 1, .int .i64 view, .int .i64 0, .int .i64 0, .int .i64 0, .slice none 0 0, .int .i64 0, .int .i64 0, .int .i64 0, .bool false]).setCell ⟨w10.heap.size, 0, none⟩ (.int .i64 4)).setCell ⟨w10.heap.size, 6, none⟩ (.int .i64 31)) = w11 at *
            refine (rLog_c w11 _ A0 cap0 len0 z0 R11.out).mono ?_
            rintro e w12 ⟨A', c', rfl, o12, b12⟩
            have hL1 := PLog.log_len z0
            have hL2 : (PLog.log z0).all PEnt.may = true := by rw [List.all_eq_true]; exact PLog.okN_may _ _ (PLog.log_ok z0)
            generalize PLog.log z0 = L at *
            have K12 := Lib.hid (K8.out.past b12)
            have k8 : w12.cell? ⟨w10.heap.size, 8, none⟩ = some (.slice none 0 0) := K12.out.cell rfl
            have f8 := K12.out.free 8
            have g13 := grown_set w12 w10.heap.size 8 (.slice A' L.length c')
            have K13 := Lib.hid (show Blk (w12.setCell ⟨w10.heap.size, 8, none⟩ (.slice A' L.length c')) w10.heap.size 47 (mcs (lateM 4 o me view 31 L) A' c') from K12.out.set 8 _)
            have b13 := b8.out.trans (b12.mono b8.out.size)
            have N13 := Lib.hid (N10.out.past (b13.trans (grown_below g13 (Nat.le_refl _) b13.size)))
            have R13 := Lib.hid (Rd.of_own (own_apartB o12 K12.out (by decide) g13)).tight
            have HMA := Lib.hid (may_m (kind := 4) (id := o) (dst := me) (view := view) (mem := 31) (num := 0) (es := L) (yes := false) (by omega) (by omega) (by omega) (by omega) (by omega) (by omega) (by omega) hL1 hL2)
            clear o12 b12 g13 b13 b8 K8 K12 R11 N11 N10 hL1 hL2
            go_wp2_with ((with_reducible show wpList _ _ _ ((⟨some 98, Op.load _ _, _, _, _, _⟩ : Oper) :: _) _ _); go_must (refine wpList_load_row rfl 47 (.tmp 18) rfl w10.heap.size rfl 47 #[.int .i64 4, .int .i64 o, .int .i64 me, .int .i64 1, .int .i64 view, .int .i64 0, .int .i64 31, .int .i64 0, .slice A' L.length c', .int .i64 0, .int .i64 0, .int .i64 0, .bool false] (0, 0) _ K13.out Tryz.underlying47 rfl (by kernel_rfl) ?_))
            clear k8 f8 K13
            generalize w12.setCell ⟨w10.heap.size, 8, none⟩ (.slice A' L.length c') = w13 at *
            have HG2 : Hid (PGram.herr (({ quitP (gotP (newP me 5 1 0) (fromM 1 q me promise)) promise with den := 0 } : Np)).id (({ quitP (gotP (newP me 5 1 0) (fromM 1 q me promise)) promise with den := 0 } : Np)).G (some (lateM 4 o me view 31 L)) = 0) := Lib.hid (by
              have h9 : (PGram.at_ (({ quitP (gotP (newP me 5 1 0) (fromM 1 q me promise)) promise with den := 0 } : Np)).G o).boot ≤ 1 := P9.out.G o
              show (if me ≠ me then (1 : Int) else if (1 : Int) < (PGram.at_ (({ quitP (gotP (newP me 5 1 0) (fromM 1 q me promise)) promise with den := 0 } : Np)).G o).boot then 7 else 0) = 0
              rw [if_neg (by simp), if_neg (Int.not_lt.2 h9)])
            have HP2 : Hid (Pm me 5 promise (gotP ({ quitP (gotP (newP me 5 1 0) (fromM 1 q me promise)) promise with den := 0 } : Np) (lateM 4 o me view 31 L))) := Lib.hid (P9.out.got rfl)
            refine (hearL_not N13.out (lateM 4 o me view 31 L) A' c' R13.out HT.out HMA.out HG2.out (fun w1 F1 A1 c1 h1 => hd_inst_late h1 (lateM 4 o me view 31 L) A1 c1 rfl HP2.out.kn (by show view < _; rw [HP2.out.pr]; exact g4))).mono ?_
            rintro e w14 ⟨Q, p', A2, c2, ⟨rfl, rfl⟩, rfl, -, n14, -⟩
            have N14 := Lib.hid n14
            clear n14 N13 R13 HMA HG2
            obtain ⟨F14, h14, -⟩ := N14.out.ex
            have H14 := Lib.hid h14
            clear h14
            go_wp2_with fail
            refine (ndLast_c H14.out).mono ?_
            rw [HP2.out.la]
            rintro e w15 ⟨rfl, rfl⟩
            go_wp2_with fail
            refine (ndLog_c H14.out HP2.out.L).mono ?_
            rintro e w16 ⟨A3, c3, rfl, b16⟩
            have H16 := Lib.hid (H14.out.past b16)
            have N16 := Lib.hid (N14.out.past b16)
            have D16 : Hid (Ds w16 d (gotP ({ quitP (gotP (newP me 5 1 0) (fromM 1 q me promise)) promise with den := 0 } : Np) (lateM 4 o me view 31 L)).boot promise) := Lib.hid (by have := N16.out.disk; rw [HP2.out.pr] at this; exact this)
            clear b16 H14 N14
            go_wp2_with fail
            refine (view_c w16 d _ _ D16.out).mono ?_
            rintro e w17 ⟨rfl, rfl⟩
            go_wp2_with fail
            refine (ndTold_c H16.out).mono ?_
            rintro e w18 ⟨A4, c4, rfl, b18⟩
            have hT0 : (gotP ({ quitP (gotP (newP me 5 1 0) (fromM 1 q me promise)) promise with den := 0 } : Np) (lateM 4 o me view 31 L)).T.length = 0 := rfl
            rw [hT0]
            have N18 := Lib.hid (N16.out.past b18)
            clear b18 H16 N16 hT0
            go_wp2_with fail
            go_ret
            exact ⟨by simp, N18.out.bel⟩
          · have KZ := Lib.hid (Blk.new w10 #[.int .i64 0, .int .i64 0, .int .i64 0, .int .i64 0, .int .i64 0, .int .i64 0, .int .i64 0, .int .i64 0, .slice none 0 0, .int .i64 0, .int .i64 0, .int .i64 0, .bool false] 47)
            have K7 := Lib.hid (Blk.row KZ.out #[.int .i64 5, .int .i64 o, .int .i64 me, .int .i64 1, .int .i64 view, .int .i64 0, .int .i64 0, .int .i64 0, .slice none 0 0, .int .i64 0, .int .i64 0, .int .i64 0, .bool false])
            have b7 := Lib.hid (((Below.refl w10.heap.size w10).alloc (Nat.le_refl _) (.cells #[.int .i64 0, .int .i64 0, .int .i64 0, .int .i64 0, .int .i64 0, .int .i64 0, .int .i64 0, .int .i64 0, .slice none 0 0, .int .i64 0, .int .i64 0, .int .i64 0, .bool false] 47)).trans (grown_below (grown_row (w10.alloc (.cells #[.int .i64 0, .int .i64 0, .int .i64 0, .int .i64 0, .int .i64 0, .int .i64 0, .int .i64 0, .int .i64 0, .slice none 0 0, .int .i64 0, .int .i64 0, .int .i64 0, .bool false] 47)) w10.heap.size #[.int .i64 5, .int .i64 o, .int .i64 me, .int .i64 1, .int .i64 view, .int .i64 0, .int .i64 0, .int .i64 0, .slice none 0 0, .int .i64 0, .int .i64 0, .int .i64 0, .bool false]) (Nat.le_refl _) (by simp)))
            have k0 : ((w10.alloc (.cells #[.int .i64 0, .int .i64 0, .int .i64 0, .int .i64 0, .int .i64 0, .int .i64 0, .int .i64 0, .int .i64 0, .slice none 0 0, .int .i64 0, .int .i64 0, .int .i64 0, .bool false] 47)).setRow w10.heap.size #[.int .i64 5, .int .i64 o, .int .i64 me, .int .i64 1, .int .i64 view, .int .i64 0, .int .i64 0, .int .i64 0, .slice none 0 0, .int .i64 0, .int .i64 0, .int .i64 0, .bool false]).cell? ⟨w10.heap.size, 0, none⟩ = some (.int .i64 5) := K7.out.cell rfl
            have f0 := K7.out.free 0
            have K6 := Lib.hid (show Blk (((w10.alloc (.cells #[.int .i64 0, .int .i64 0, .int .i64 0, .int .i64 0, .int .i64 0, .int .i64 0, .int .i64 0, .int .i64 0, .slice none 0 0, .int .i64 0, .int .i64 0, .int .i64 0, .bool false] 47)).setRow w10.heap.size #[.int .i64 5, .int .i64 o, .int .i64 me, .int .i64 1, .int .i64 view, .int .i64 0, .int .i64 0, .int .i64 0, .slice none 0 0, .int .i64 0, .int .i64 0, .int .i64 0, .bool false]).setCell ⟨w10.heap.size, 0, none⟩ (.int .i64 4)) w10.heap.size 47 (mcs (lateM 4 o me view 0 []) none 0) from K7.out.set 0 _)
            have k6 : (((w10.alloc (.cells #[.int .i64 0, .int .i64 0, .int .i64 0, .int .i64 0, .int .i64 0, .int .i64 0, .int .i64 0, .int .i64 0, .slice none 0 0, .int .i64 0, .int .i64 0, .int .i64 0, .bool false] 47)).setRow w10.heap.size #[.int .i64 5, .int .i64 o, .int .i64 me, .int .i64 1, .int .i64 view, .int .i64 0, .int .i64 0, .int .i64 0, .slice none 0 0, .int .i64 0, .int .i64 0, .int .i64 0, .bool false]).setCell ⟨w10.heap.size, 0, none⟩ (.int .i64 4)).cell? ⟨w10.heap.size, 6, none⟩ = some (.int .i64 0) := K6.out.cell rfl
            have f6 := K6.out.free 6
            have K8 := Lib.hid (show Blk ((((w10.alloc (.cells #[.int .i64 0, .int .i64 0, .int .i64 0, .int .i64 0, .int .i64 0, .int .i64 0, .int .i64 0, .int .i64 0, .slice none 0 0, .int .i64 0, .int .i64 0, .int .i64 0, .bool false] 47)).setRow w10.heap.size #[.int .i64 5, .int .i64 o, .int .i64 me, .int .i64 1, .int .i64 view, .int .i64 0, .int .i64 0, .int .i64 0, .slice none 0 0, .int .i64 0, .int .i64 0, .int .i64 0, .bool false]).setCell ⟨w10.heap.size, 0, none⟩ (.int .i64 4)).setCell ⟨w10.heap.size, 6, none⟩ (.int .i64 63)) w10.heap.size 47 (mcs (lateM 4 o me view 63 []) none 0) from K6.out.set 6 _)
            have b8 : Hid (Below w10.heap.size w10 ((((w10.alloc (.cells #[.int .i64 0, .int .i64 0, .int .i64 0, .int .i64 0, .int .i64 0, .int .i64 0, .int .i64 0, .int .i64 0, .slice none 0 0, .int .i64 0, .int .i64 0, .int .i64 0, .bool false] 47)).setRow w10.heap.size #[.int .i64 5, .int .i64 o, .int .i64 me, .int .i64 1, .int .i64 view, .int .i64 0, .int .i64 0, .int .i64 0, .slice none 0 0, .int .i64 0, .int .i64 0, .int .i64 0, .bool false]).setCell ⟨w10.heap.size, 0, none⟩ (.int .i64 4)).setCell ⟨w10.heap.size, 6, none⟩ (.int .i64 63))) := Lib.hid (by
              have q1 := b7.out.trans (grown_below (grown_set ((w10.alloc (.cells #[.int .i64 0, .int .i64 0, .int .i64 0, .int .i64 0, .int .i64 0, .int .i64 0, .int .i64 0, .int .i64 0, .slice none 0 0, .int .i64 0, .int .i64 0, .int .i64 0, .bool false] 47)).setRow w10.heap.size #[.int .i64 5, .int .i64 o, .int .i64 me, .int .i64 1, .int .i64 view, .int .i64 0, .int .i64 0, .int .i64 0, .slice none 0 0, .int .i64 0, .int .i64 0, .int .i64 0, .bool false]) w10.heap.size 0 (.int .i64 4)) (Nat.le_refl _) b7.out.size)
              exact q1.trans (grown_below (grown_set (((w10.alloc (.cells #[.int .i64 0, .int .i64 0, .int .i64 0, .int .i64 0, .int .i64 0, .int .i64 0, .int .i64 0, .int .i64 0, .slice none 0 0, .int .i64 0, .int .i64 0, .int .i64 0, .bool false] 47)).setRow w10.heap.size #[.int .i64 5, .int .i64 o, .int .i64 me, .int .i64 1, .int .i64 view, .int .i64 0, .int .i64 0, .int .i64 0, .slice none 0 0, .int .i64 0, .int .i64 0, .int .i64 0, .bool false]).setCell ⟨w10.heap.size, 0, none⟩ (.int .i64 4)) w10.heap.size 6 (.int .i64 63)) (Nat.le_refl _) q1.size))
            have N11 := Lib.hid (N10.out.past b8.out)
            have R11 := Lib.hid (HR0.out.past N11.out.bel)
            go_wp2_with ((with_reducible show wpList _ _ _ ((⟨none, Op.store 47 (.tmp 18) _, _, _, _, _⟩ : Oper) :: _) _ _); go_must (refine wpList_store_row rfl 47 (.tmp 18) (.tmp 86) rfl w10.heap.size _ rfl rfl _ _ KZ.out (by kernel_rfl) (by rfl) (by kernel_rfl) ?_))
            clear KZ K7 b7 k0 f0 k6 f6 K6
            generalize ((((w10.alloc (.cells #[.int .i64 0, .int .i64 0, .int .i64 0, .int .i64 0, .int .i64 0, .int .i64 0, .int .i64 0, .int .i64 0, .slice none 0 0, .int .i64 0, .int .i64 0, .int .i64 0, .bool false] 47)).setRow w10.heap.size #[.int .i64 5, .int .i64 o, .int .i64 me, .int .i64 1, .int .i64 view, .int .i64 0, .int .i64 0, .int .i64 0, .slice none 0 0, .int .i64 0, .int .i64 0, .int .i64 0, .bool false]).setCell ⟨w10.heap.size, 0, none⟩ (.int .i64 4)).setCell ⟨w10.heap.size, 6, none⟩ (.int .i64 63)) = w11 at *
            refine (rLog_c w11 _ A0 cap0 len0 z0 R11.out).mono ?_
            rintro e w12 ⟨A', c', rfl, o12, b12⟩
            have hL1 := PLog.log_len z0
            have hL2 : (PLog.log z0).all PEnt.may = true := by rw [List.all_eq_true]; exact PLog.okN_may _ _ (PLog.log_ok z0)
            generalize PLog.log z0 = L at *
            have K12 := Lib.hid (K8.out.past b12)
            have k8 : w12.cell? ⟨w10.heap.size, 8, none⟩ = some (.slice none 0 0) := K12.out.cell rfl
            have f8 := K12.out.free 8
            have g13 := grown_set w12 w10.heap.size 8 (.slice A' L.length c')
            have K13 := Lib.hid (show Blk (w12.setCell ⟨w10.heap.size, 8, none⟩ (.slice A' L.length c')) w10.heap.size 47 (mcs (lateM 4 o me view 63 L) A' c') from K12.out.set 8 _)
            have b13 := b8.out.trans (b12.mono b8.out.size)
            have N13 := Lib.hid (N10.out.past (b13.trans (grown_below g13 (Nat.le_refl _) b13.size)))
            have R13 := Lib.hid (Rd.of_own (own_apartB o12 K12.out (by decide) g13)).tight
            have HMA := Lib.hid (may_m (kind := 4) (id := o) (dst := me) (view := view) (mem := 63) (num := 0) (es := L) (yes := false) (by omega) (by omega) (by omega) (by omega) (by omega) (by omega) (by omega) hL1 hL2)
            clear o12 b12 g13 b13 b8 K8 K12 R11 N11 N10 hL1 hL2
            go_wp2_with ((with_reducible show wpList _ _ _ ((⟨some 98, Op.load _ _, _, _, _, _⟩ : Oper) :: _) _ _); go_must (refine wpList_load_row rfl 47 (.tmp 18) rfl w10.heap.size rfl 47 #[.int .i64 4, .int .i64 o, .int .i64 me, .int .i64 1, .int .i64 view, .int .i64 0, .int .i64 63, .int .i64 0, .slice A' L.length c', .int .i64 0, .int .i64 0, .int .i64 0, .bool false] (0, 0) _ K13.out Tryz.underlying47 rfl (by kernel_rfl) ?_))
            clear k8 f8 K13
            generalize w12.setCell ⟨w10.heap.size, 8, none⟩ (.slice A' L.length c') = w13 at *
            have HG2 : Hid (PGram.herr (({ quitP (gotP (newP me 6 1 0) (fromM 1 q me promise)) promise with den := 0 } : Np)).id (({ quitP (gotP (newP me 6 1 0) (fromM 1 q me promise)) promise with den := 0 } : Np)).G (some (lateM 4 o me view 63 L)) = 0) := Lib.hid (by
              have h9 : (PGram.at_ (({ quitP (gotP (newP me 6 1 0) (fromM 1 q me promise)) promise with den := 0 } : Np)).G o).boot ≤ 1 := P9.out.G o
              show (if me ≠ me then (1 : Int) else if (1 : Int) < (PGram.at_ (({ quitP (gotP (newP me 6 1 0) (fromM 1 q me promise)) promise with den := 0 } : Np)).G o).boot then 7 else 0) = 0
              rw [if_neg (by simp), if_neg (Int.not_lt.2 h9)])
            have HP2 : Hid (Pm me 6 promise (gotP ({ quitP (gotP (newP me 6 1 0) (fromM 1 q me promise)) promise with den := 0 } : Np) (lateM 4 o me view 63 L))) := Lib.hid (P9.out.got rfl)
            refine (hearL_not N13.out (lateM 4 o me view 63 L) A' c' R13.out HT.out HMA.out HG2.out (fun w1 F1 A1 c1 h1 => hd_inst_late h1 (lateM 4 o me view 63 L) A1 c1 rfl HP2.out.kn (by show view < _; rw [HP2.out.pr]; exact g4))).mono ?_
            rintro e w14 ⟨Q, p', A2, c2, ⟨rfl, rfl⟩, rfl, -, n14, -⟩
            have N14 := Lib.hid n14
            clear n14 N13 R13 HMA HG2
            obtain ⟨F14, h14, -⟩ := N14.out.ex
            have H14 := Lib.hid h14
            clear h14
            go_wp2_with fail
            refine (ndLast_c H14.out).mono ?_
            rw [HP2.out.la]
            rintro e w15 ⟨rfl, rfl⟩
            go_wp2_with fail
            refine (ndLog_c H14.out HP2.out.L).mono ?_
            rintro e w16 ⟨A3, c3, rfl, b16⟩
            have H16 := Lib.hid (H14.out.past b16)
            have N16 := Lib.hid (N14.out.past b16)
            have D16 : Hid (Ds w16 d (gotP ({ quitP (gotP (newP me 6 1 0) (fromM 1 q me promise)) promise with den := 0 } : Np) (lateM 4 o me view 63 L)).boot promise) := Lib.hid (by have := N16.out.disk; rw [HP2.out.pr] at this; exact this)
            clear b16 H14 N14
            go_wp2_with fail
            refine (view_c w16 d _ _ D16.out).mono ?_
            rintro e w17 ⟨rfl, rfl⟩
            go_wp2_with fail
            refine (ndTold_c H16.out).mono ?_
            rintro e w18 ⟨A4, c4, rfl, b18⟩
            have hT0 : (gotP ({ quitP (gotP (newP me 6 1 0) (fromM 1 q me promise)) promise with den := 0 } : Np) (lateM 4 o me view 63 L)).T.length = 0 := rfl
            rw [hT0]
            have N18 := Lib.hid (N16.out.past b18)
            clear b18 H16 N16 hT0
            go_wp2_with fail
            go_ret
            exact ⟨by simp, N18.out.bel⟩
          · have KZ := Lib.hid (Blk.new w10 #[.int .i64 0, .int .i64 0, .int .i64 0, .int .i64 0, .int .i64 0, .int .i64 0, .int .i64 0, .int .i64 0, .slice none 0 0, .int .i64 0, .int .i64 0, .int .i64 0, .bool false] 47)
            have K7 := Lib.hid (Blk.row KZ.out #[.int .i64 5, .int .i64 o, .int .i64 me, .int .i64 1, .int .i64 view, .int .i64 0, .int .i64 0, .int .i64 0, .slice none 0 0, .int .i64 0, .int .i64 0, .int .i64 0, .bool false])
            have b7 := Lib.hid (((Below.refl w10.heap.size w10).alloc (Nat.le_refl _) (.cells #[.int .i64 0, .int .i64 0, .int .i64 0, .int .i64 0, .int .i64 0, .int .i64 0, .int .i64 0, .int .i64 0, .slice none 0 0, .int .i64 0, .int .i64 0, .int .i64 0, .bool false] 47)).trans (grown_below (grown_row (w10.alloc (.cells #[.int .i64 0, .int .i64 0, .int .i64 0, .int .i64 0, .int .i64 0, .int .i64 0, .int .i64 0, .int .i64 0, .slice none 0 0, .int .i64 0, .int .i64 0, .int .i64 0, .bool false] 47)) w10.heap.size #[.int .i64 5, .int .i64 o, .int .i64 me, .int .i64 1, .int .i64 view, .int .i64 0, .int .i64 0, .int .i64 0, .slice none 0 0, .int .i64 0, .int .i64 0, .int .i64 0, .bool false]) (Nat.le_refl _) (by simp)))
            have k0 : ((w10.alloc (.cells #[.int .i64 0, .int .i64 0, .int .i64 0, .int .i64 0, .int .i64 0, .int .i64 0, .int .i64 0, .int .i64 0, .slice none 0 0, .int .i64 0, .int .i64 0, .int .i64 0, .bool false] 47)).setRow w10.heap.size #[.int .i64 5, .int .i64 o, .int .i64 me, .int .i64 1, .int .i64 view, .int .i64 0, .int .i64 0, .int .i64 0, .slice none 0 0, .int .i64 0, .int .i64 0, .int .i64 0, .bool false]).cell? ⟨w10.heap.size, 0, none⟩ = some (.int .i64 5) := K7.out.cell rfl
            have f0 := K7.out.free 0
            have K6 := Lib.hid (show Blk (((w10.alloc (.cells #[.int .i64 0, .int .i64 0, .int .i64 0, .int .i64 0, .int .i64 0, .int .i64 0, .int .i64 0, .int .i64 0, .slice none 0 0, .int .i64 0, .int .i64 0, .int .i64 0, .bool false] 47)).setRow w10.heap.size #[.int .i64 5, .int .i64 o, .int .i64 me, .int .i64 1, .int .i64 view, .int .i64 0, .int .i64 0, .int .i64 0, .slice none 0 0, .int .i64 0, .int .i64 0, .int .i64 0, .bool false]).setCell ⟨w10.heap.size, 0, none⟩ (.int .i64 4)) w10.heap.size 47 (mcs (lateM 4 o me view 0 []) none 0) from K7.out.set 0 _)
            have k6 : (((w10.alloc (.cells #[.int .i64 0, .int .i64 0, .int .i64 0, .int .i64 0, .int .i64 0, .int .i64 0, .int .i64 0, .int .i64 0, .slice none 0 0, .int .i64 0, .int .i64 0, .int .i64 0, .bool false] 47)).setRow w10.heap.size #[.int .i64 5, .int .i64 o, .int .i64 me, .int .i64 1, .int .i64 view, .int .i64 0, .int .i64 0, .int .i64 0, .slice none 0 0, .int .i64 0, .int .i64 0, .int .i64 0, .bool false]).setCell ⟨w10.heap.size, 0, none⟩ (.int .i64 4)).cell? ⟨w10.heap.size, 6, none⟩ = some (.int .i64 0) := K6.out.cell rfl
            have f6 := K6.out.free 6
            have K8 := Lib.hid (show Blk ((((w10.alloc (.cells #[.int .i64 0, .int .i64 0, .int .i64 0, .int .i64 0, .int .i64 0, .int .i64 0, .int .i64 0, .int .i64 0, .slice none 0 0, .int .i64 0, .int .i64 0, .int .i64 0, .bool false] 47)).setRow w10.heap.size #[.int .i64 5, .int .i64 o, .int .i64 me, .int .i64 1, .int .i64 view, .int .i64 0, .int .i64 0, .int .i64 0, .slice none 0 0, .int .i64 0, .int .i64 0, .int .i64 0, .bool false]).setCell ⟨w10.heap.size, 0, none⟩ (.int .i64 4)).setCell ⟨w10.heap.size, 6, none⟩ (.int .i64 127)) w10.heap.size 47 (mcs (lateM 4 o me view 127 []) none 0) from K6.out.set 6 _)
            have b8 : Hid (Below w10.heap.size w10 ((((w10.alloc (.cells #[.int .i64 0, .int .i64 0, .int .i64 0, .int .i64 0, .int .i64 0, .int .i64 0, .int .i64 0, .int .i64 0, .slice none 0 0, .int .i64 0, .int .i64 0, .int .i64 0, .bool false] 47)).setRow w10.heap.size #[.int .i64 5, .int .i64 o, .int .i64 me, .int .i64 1, .int .i64 view, .int .i64 0, .int .i64 0, .int .i64 0, .slice none 0 0, .int .i64 0, .int .i64 0, .int .i64 0, .bool false]).setCell ⟨w10.heap.size, 0, none⟩ (.int .i64 4)).setCell ⟨w10.heap.size, 6, none⟩ (.int .i64 127))) := Lib.hid (by
              have q1 := b7.out.trans (grown_below (grown_set ((w10.alloc (.cells #[.int .i64 0, .int .i64 0, .int .i64 0, .int .i64 0, .int .i64 0, .int .i64 0, .int .i64 0, .int .i64 0, .slice none 0 0, .int .i64 0, .int .i64 0, .int .i64 0, .bool false] 47)).setRow w10.heap.size #[.int .i64 5, .int .i64 o, .int .i64 me, .int .i64 1, .int .i64 view, .int .i64 0, .int .i64 0, .int .i64 0, .slice none 0 0, .int .i64 0, .int .i64 0, .int .i64 0, .bool false]) w10.heap.size 0 (.int .i64 4)) (Nat.le_refl _) b7.out.size)
              exact q1.trans (grown_below (grown_set (((w10.alloc (.cells #[.int .i64 0, .int .i64 0, .int .i64 0, .int .i64 0, .int .i64 0, .int .i64 0, .int .i64 0, .int .i64 0, .slice none 0 0, .int .i64 0, .int .i64 0, .int .i64 0, .bool false] 47)).setRow w10.heap.size #[.int .i64 5, .int .i64 o, .int .i64 me, .int .i64 1, .int .i64 view, .int .i64 0, .int .i64 0, .int .i64 0, .slice none 0 0, .int .i64 0, .int .i64 0, .int .i64 0, .bool false]).setCell ⟨w10.heap.size, 0, none⟩ (.int .i64 4)) w10.heap.size 6 (.int .i64 127)) (Nat.le_refl _) q1.size))
            have N11 := Lib.hid (N10.out.past b8.out)
            have R11 := Lib.hid (HR0.out.past N11.out.bel)
            go_wp2_with ((with_reducible show wpList _ _ _ ((⟨none, Op.store 47 (.tmp 18) _, _, _, _, _⟩ : Oper) :: _) _ _); go_must (refine wpList_store_row rfl 47 (.tmp 18) (.tmp 86) rfl w10.heap.size _ rfl rfl _ _ KZ.out (by kernel_rfl) (by rfl) (by kernel_rfl) ?_))
            clear KZ K7 b7 k0 f0 k6 f6 K6
            generalize ((((w10.alloc (.cells #[.int .i64 0, .int .i64 0, .int .i64 0, .int .i64 0, .int .i64 0, .int .i64 0, .int .i64 0, .int .i64 0, .slice none 0 0, .int .i64 0, .int .i64 0, .int .i64 0, .bool false] 47)).setRow w10.heap.size #[.int .i64 5, .int .i64 o, .int .i64 me, .int .i64 1, .int .i64 view, .int .i64 0, .int .i64 0, .int .i64 0, .slice none 0 0, .int .i64 0, .int .i64 0, .int .i64 0, .bool false]).setCell ⟨w10.heap.size, 0, none⟩ (.int .i64 4)).setCell ⟨w10.heap.size, 6, none⟩ (.int .i64 127)) = w11 at *
            refine (rLog_c w11 _ A0 cap0 len0 z0 R11.out).mono ?_
            rintro e w12 ⟨A', c', rfl, o12, b12⟩
            have hL1 := PLog.log_len z0
            have hL2 : (PLog.log z0).all PEnt.may = true := by rw [List.all_eq_true]; exact PLog.okN_may _ _ (PLog.log_ok z0)
            generalize PLog.log z0 = L at *
            have K12 := Lib.hid (K8.out.past b12)
            have k8 : w12.cell? ⟨w10.heap.size, 8, none⟩ = some (.slice none 0 0) := K12.out.cell rfl
            have f8 := K12.out.free 8
            have g13 := grown_set w12 w10.heap.size 8 (.slice A' L.length c')
            have K13 := Lib.hid (show Blk (w12.setCell ⟨w10.heap.size, 8, none⟩ (.slice A' L.length c')) w10.heap.size 47 (mcs (lateM 4 o me view 127 L) A' c') from K12.out.set 8 _)
            have b13 := b8.out.trans (b12.mono b8.out.size)
            have N13 := Lib.hid (N10.out.past (b13.trans (grown_below g13 (Nat.le_refl _) b13.size)))
            have R13 := Lib.hid (Rd.of_own (own_apartB o12 K12.out (by decide) g13)).tight
            have HMA := Lib.hid (may_m (kind := 4) (id := o) (dst := me) (view := view) (mem := 127) (num := 0) (es := L) (yes := false) (by omega) (by omega) (by omega) (by omega) (by omega) (by omega) (by omega) hL1 hL2)
            clear o12 b12 g13 b13 b8 K8 K12 R11 N11 N10 hL1 hL2
            go_wp2_with ((with_reducible show wpList _ _ _ ((⟨some 98, Op.load _ _, _, _, _, _⟩ : Oper) :: _) _ _); go_must (refine wpList_load_row rfl 47 (.tmp 18) rfl w10.heap.size rfl 47 #[.int .i64 4, .int .i64 o, .int .i64 me, .int .i64 1, .int .i64 view, .int .i64 0, .int .i64 127, .int .i64 0, .slice A' L.length c', .int .i64 0, .int .i64 0, .int .i64 0, .bool false] (0, 0) _ K13.out Tryz.underlying47 rfl (by kernel_rfl) ?_))
            clear k8 f8 K13
            generalize w12.setCell ⟨w10.heap.size, 8, none⟩ (.slice A' L.length c') = w13 at *
            have HG2 : Hid (PGram.herr (({ quitP (gotP (newP me 7 1 0) (fromM 1 q me promise)) promise with den := 0 } : Np)).id (({ quitP (gotP (newP me 7 1 0) (fromM 1 q me promise)) promise with den := 0 } : Np)).G (some (lateM 4 o me view 127 L)) = 0) := Lib.hid (by
              have h9 : (PGram.at_ (({ quitP (gotP (newP me 7 1 0) (fromM 1 q me promise)) promise with den := 0 } : Np)).G o).boot ≤ 1 := P9.out.G o
              show (if me ≠ me then (1 : Int) else if (1 : Int) < (PGram.at_ (({ quitP (gotP (newP me 7 1 0) (fromM 1 q me promise)) promise with den := 0 } : Np)).G o).boot then 7 else 0) = 0
              rw [if_neg (by simp), if_neg (Int.not_lt.2 h9)])
            have HP2 : Hid (Pm me 7 promise (gotP ({ quitP (gotP (newP me 7 1 0) (fromM 1 q me promise)) promise with den := 0 } : Np) (lateM 4 o me view 127 L))) := Lib.hid (P9.out.got rfl)
            refine (hearL_not N13.out (lateM 4 o me view 127 L) A' c' R13.out HT.out HMA.out HG2.out (fun w1 F1 A1 c1 h1 => hd_inst_late h1 (lateM 4 o me view 127 L) A1 c1 rfl HP2.out.kn (by show view < _; rw [HP2.out.pr]; exact g4))).mono ?_
            rintro e w14 ⟨Q, p', A2, c2, ⟨rfl, rfl⟩, rfl, -, n14, -⟩
            have N14 := Lib.hid n14
            clear n14 N13 R13 HMA HG2
            obtain ⟨F14, h14, -⟩ := N14.out.ex
            have H14 := Lib.hid h14
            clear h14
            go_wp2_with fail
            refine (ndLast_c H14.out).mono ?_
            rw [HP2.out.la]
            rintro e w15 ⟨rfl, rfl⟩
            go_wp2_with fail
            refine (ndLog_c H14.out HP2.out.L).mono ?_
            rintro e w16 ⟨A3, c3, rfl, b16⟩
            have H16 := Lib.hid (H14.out.past b16)
            have N16 := Lib.hid (N14.out.past b16)
            have D16 : Hid (Ds w16 d (gotP ({ quitP (gotP (newP me 7 1 0) (fromM 1 q me promise)) promise with den := 0 } : Np) (lateM 4 o me view 127 L)).boot promise) := Lib.hid (by have := N16.out.disk; rw [HP2.out.pr] at this; exact this)
            clear b16 H14 N14
            go_wp2_with fail
            refine (view_c w16 d _ _ D16.out).mono ?_
            rintro e w17 ⟨rfl, rfl⟩
            go_wp2_with fail
            refine (ndTold_c H16.out).mono ?_
            rintro e w18 ⟨A4, c4, rfl, b18⟩
            have hT0 : (gotP ({ quitP (gotP (newP me 7 1 0) (fromM 1 q me promise)) promise with den := 0 } : Np) (lateM 4 o me view 127 L)).T.length = 0 := rfl
            rw [hT0]
            have N18 := Lib.hid (N16.out.past b18)
            clear b18 H16 N16 hT0
            go_wp2_with fail
            go_ret
            exact ⟨by simp, N18.out.bel⟩

set_option maxRecDepth 100000 in
theorem NodeLate_bad (w : World) (ht : Tab w) (n view promise : Int) (inst : Bool) (A0 : Option Addr) (len0 cap0 : Nat) (hb : n < 3 ∨ 7 < n ∨ view < 1 ∨ promise ≤ view ∨ 60 < promise ∨ 10 < (len0 : Int)) :
    Calls Tryz.prog 9 #[.int .i64 n, .int .i64 view, .int .i64 promise, .bool inst, .slice A0 len0 cap0] w fun e w' => e = .returned (.bool true) ∧ Below w.heap.size w w' := by
  have HT := Lib.hid ht
  clear ht
  rcases (by omega : (n < 3) ∨ (¬ n < 3 ∧ 7 < n) ∨ (¬ n < 3 ∧ ¬ 7 < n ∧ view < 1) ∨ (¬ n < 3 ∧ ¬ 7 < n ∧ ¬ view < 1 ∧ promise ≤ view) ∨ (¬ n < 3 ∧ ¬ 7 < n ∧ ¬ view < 1 ∧ ¬ promise ≤ view ∧ 60 < promise) ∨ (¬ n < 3 ∧ ¬ 7 < n ∧ ¬ view < 1 ∧ ¬ promise ≤ view ∧ ¬ 60 < promise ∧ 10 < (len0 : Int))) with h | ⟨h0, h⟩ | ⟨h0, h1, h⟩ | ⟨h0, h1, h2, h⟩ | ⟨h0, h1, h2, h3, h⟩ | ⟨h0, h1, h2, h3, h4, h⟩
  all_goals
    clear hb
    go_enter Tryz.func9, Tryz.ntmps9
    go_wp2_with fail
    refine (begunN_c w HT.out).mono ?_
    rintro e w1 ⟨rfl, b1⟩
    have b1' := Lib.hid b1
    clear b1
    go_wp2_with fail
    go_ret
    exact ⟨rfl, b1'.out⟩
theorem NodeLate_w (w : World) (ht : Tab w) (n view promise : Int) (inst : Bool) (A0 : Option Addr) (len0 cap0 : Nat) (z0 : List Ent) (R0 : Rd w w.heap.size A0 cap0 7 len0 (els z0)) :
    Calls Tryz.prog 9 #[.int .i64 n, .int .i64 view, .int .i64 promise, .bool inst, .slice A0 len0 cap0] w fun e w' => e = .returned (.bool true) ∧ Below w.heap.size w w' := by
  by_cases hb : n < 3 ∨ 7 < n ∨ view < 1 ∨ promise ≤ view ∨ 60 < promise ∨ 10 < (len0 : Int)
  · exact NodeLate_bad w ht n view promise inst A0 len0 cap0 hb
  · exact NodeLate_good w ht n view promise inst A0 len0 cap0 z0 R0 (by omega) (by omega) (by omega) (by omega) (by omega) (by omega)
end Go.Proofs.YtfolifhgmdglaaaGreatDoor

