/- The walks of NodeForgot: another kind; a word that says no. -/
import Derived.Test.YtfolifhgmdglaaaGreatDoorSegLaw25E
namespace Go.Proofs.YtfolifhgmdglaaaGreatDoor
open Go.RowKit PNode

set_option maxHeartbeats 16000000 in
set_option maxRecDepth 100000 in
theorem NodeForgot_n1 (w : World) (ht : Tab w) (n promise view kind num : Int) (yes : Bool) (K : Nat) (hN : n = K) (g1 : 3 ≤ n) (g2 : n ≤ 7) (g3 : 0 ≤ promise) (g4 : promise ≤ 40) (g5 : 1 ≤ view) (g6 : view ≤ 60) (g7 : 1 ≤ kind) (g8 : kind ≤ 13) (k1 : kind ≠ 11) (k2 : kind ≠ 12) :
    Calls Tryz.prog 5 #[.int .i64 n, .int .i64 promise, .int .i64 view, .int .i64 kind, .bool yes, .int .i64 num] w fun e w' => e = .returned (.bool true) ∧ Below w.heap.size w w' := by
  have HT := Lib.hid ht
  have hd0 := fg_dec (v := view) g5 g1 g2
  obtain ⟨o, ho⟩ : ∃ o, PTeam.decider view n = o := ⟨_, rfl⟩
  rw [ho] at hd0
  obtain ⟨ho1, ho2⟩ := hd0
  have hmod := fg_mod ho1 ho2 g1
  obtain ⟨me, hme⟩ : ∃ me, 1 + o % n = me := ⟨_, rfl⟩
  have q0 : 0 ≤ o % n := by omega
  have q1 : o % n < n := by omega
  rw [hme] at hmod
  obtain ⟨⟨hm1, hm2⟩, hne⟩ := hmod
  obtain ⟨P, hP⟩ : ∃ P : Int, (2 : Int) ^ n.toNat = P := ⟨_, rfl⟩
  have hPb := fg_pow hN g1 g2 hP
  obtain ⟨hP0, hP1, hP2⟩ := hPb
  have hput : PStab.put 0 promise = promise := by unfold PStab.put; split <;> omega
  obtain ⟨q, hq⟩ : ∃ q, bits .and .i64 num 1 = q := ⟨_, rfl⟩
  have hqb := fg_low num
  rw [hq] at hqb
  obtain ⟨hq1, hq2⟩ := hqb
  have HO := Lib.hid ho
  have HME := Lib.hid hme
  have HNN := Lib.hid hN
  have HKK := Lib.hid (show 3 ≤ K ∧ K ≤ 7 by omega)
  have HPB := Lib.hid hP0
  have HPT := Lib.hid hput
  have HM := Lib.hid (fg_may (kind := kind) (o := o) (me := me) (view := view) (mem := P - 1) (num := 2 + q) (yes := yes) (by omega) (by omega) (by omega) hne (by omega) (by omega) (by omega))
  have HNE := Lib.hid hne
  clear ht ho hme hN hP0 hput hne
  go_enter Tryz.func5, Tryz.ntmps5
  go_wp2_with fail
  refine (begunN_c w HT.out).mono ?_
  rintro e w1 ⟨rfl, b1⟩
  have b2 := Lib.hid (b1.alloc b1.size (.cells #[.int .i64 0, .int .i64 0] 28))
  have D2 : Hid (Ds (w1.alloc (.cells #[.int .i64 0, .int .i64 0] 28)) w1.heap.size 0 0) := Lib.hid (Blk.new w1 _ _)
  have hd1 := Lib.hid (show w.heap.size ≤ w1.heap.size from b1.size)
  clear b1
  go_wp2_with fail
  refine (start_c _ w1.heap.size 0 0 D2.out (by unfold PStab.Ok; omega) (by omega)).mono ?_
  rintro e w3 ⟨rfl, D3, t3⟩
  have D4 := Lib.hid D3
  have b3 := Lib.hid (b2.out.trans (t3.below (by intro k hk; rw [List.mem_singleton.1 hk]; exact hd1.out) b2.out.size))
  clear D3 t3 D2 b2
  obtain ⟨d, hd⟩ : ∃ d, w1.heap.size = d := ⟨_, rfl⟩
  rw [hd] at D4 hd1
  rw [hd]
  clear hd
  go_wp2_with fail
  refine (prom_c w3 d _ _ D4.out promise).mono ?_
  rintro e w31 ⟨rfl, D31, t31⟩
  rw [HPT.out] at D31
  have D32 := Lib.hid D31
  have b31 := Lib.hid (b3.out.trans (t31.below (by intro k hk; rw [List.mem_singleton.1 hk]; exact hd1.out) b3.out.size))
  clear D31 t31 D4 b3
  go_wp2_with fail
  refine (rtDecider_c w31 view n (by omega) (by omega)).mono ?_
  rw [HO.out]
  rintro e w32 ⟨rfl, rfl⟩
  go_wp2_with fail
  rw [HME.out]
  refine (Sn.make (w0 := w) b31.out (id := me) (n := n) (b := 0 + 1) (pro := promise) D32.out hd1.out g1 g2 hm1 hm2 (by omega) (by omega) g3 (by omega)).mono ?_
  rintro e w4 ⟨x, rfl, n4, -⟩
  have N4 := Lib.hid (show Sn w w4 x d (nwP me n promise) from n4)
  clear n4 D32 b31 hd1
  obtain ⟨F4, h4, -⟩ := N4.out.ex
  have H4 := Lib.hid h4
  clear h4
  go_wp2_with fail
  refine (ndKnows_c H4.out (b := false) rfl).mono ?_
  rintro e w5 ⟨rfl, rfl⟩
  clear H4
  go_wp2_with fail
  have hF : Calls Tryz.prog 27 #[.int .i64 kind, .int .i64 o, .int .i64 me, .int .i64 view] w4 fun e w' => e = .returned (.agg #[.int .i64 kind, .int .i64 o, .int .i64 me, .int .i64 1, .int .i64 view, .int .i64 0, .int .i64 0, .int .i64 0, .slice none 0 0, .int .i64 0, .int .i64 0, .int .i64 0, .bool false]) ∧ Below w4.heap.size w4 w' := from_c w4 kind o me view
  refine hF.mono ?_
  rintro e w6 ⟨rfl, b6⟩
  have N6 := Lib.hid (N4.out.past b6)
  clear b6 N4 hF
  have KZ := Lib.hid (Blk.new w6 #[.int .i64 0, .int .i64 0, .int .i64 0, .int .i64 0, .int .i64 0, .int .i64 0, .int .i64 0, .int .i64 0, .slice none 0 0, .int .i64 0, .int .i64 0, .int .i64 0, .bool false] 47)
  have K7 := Lib.hid (Blk.row KZ.out #[.int .i64 kind, .int .i64 o, .int .i64 me, .int .i64 1, .int .i64 view, .int .i64 0, .int .i64 0, .int .i64 0, .slice none 0 0, .int .i64 0, .int .i64 0, .int .i64 0, .bool false])
  have b7 := Lib.hid (((Below.refl w6.heap.size w6).alloc (Nat.le_refl _) (.cells #[.int .i64 0, .int .i64 0, .int .i64 0, .int .i64 0, .int .i64 0, .int .i64 0, .int .i64 0, .int .i64 0, .slice none 0 0, .int .i64 0, .int .i64 0, .int .i64 0, .bool false] 47)).trans (grown_below (grown_row (w6.alloc (.cells #[.int .i64 0, .int .i64 0, .int .i64 0, .int .i64 0, .int .i64 0, .int .i64 0, .int .i64 0, .int .i64 0, .slice none 0 0, .int .i64 0, .int .i64 0, .int .i64 0, .bool false] 47)) w6.heap.size #[.int .i64 kind, .int .i64 o, .int .i64 me, .int .i64 1, .int .i64 view, .int .i64 0, .int .i64 0, .int .i64 0, .slice none 0 0, .int .i64 0, .int .i64 0, .int .i64 0, .bool false]) (Nat.le_refl _) (by simp)))
  have k6 : ((w6.alloc (.cells #[.int .i64 0, .int .i64 0, .int .i64 0, .int .i64 0, .int .i64 0, .int .i64 0, .int .i64 0, .int .i64 0, .slice none 0 0, .int .i64 0, .int .i64 0, .int .i64 0, .bool false] 47)).setRow w6.heap.size #[.int .i64 kind, .int .i64 o, .int .i64 me, .int .i64 1, .int .i64 view, .int .i64 0, .int .i64 0, .int .i64 0, .slice none 0 0, .int .i64 0, .int .i64 0, .int .i64 0, .bool false]).cell? ⟨w6.heap.size, 6, none⟩ = some (.int .i64 0) := K7.out.cell rfl
  have f6 := K7.out.free 6
  have KA := Lib.hid (show Blk (((w6.alloc (.cells #[.int .i64 0, .int .i64 0, .int .i64 0, .int .i64 0, .int .i64 0, .int .i64 0, .int .i64 0, .int .i64 0, .slice none 0 0, .int .i64 0, .int .i64 0, .int .i64 0, .bool false] 47)).setRow w6.heap.size #[.int .i64 kind, .int .i64 o, .int .i64 me, .int .i64 1, .int .i64 view, .int .i64 0, .int .i64 0, .int .i64 0, .slice none 0 0, .int .i64 0, .int .i64 0, .int .i64 0, .bool false]).setCell ⟨w6.heap.size, 6, none⟩ (.int .i64 (P - 1))) w6.heap.size 47 (mcs (fgM kind o me view (P - 1) 0 false) none 0) from K7.out.set 6 _)
  have k10 : (((w6.alloc (.cells #[.int .i64 0, .int .i64 0, .int .i64 0, .int .i64 0, .int .i64 0, .int .i64 0, .int .i64 0, .int .i64 0, .slice none 0 0, .int .i64 0, .int .i64 0, .int .i64 0, .bool false] 47)).setRow w6.heap.size #[.int .i64 kind, .int .i64 o, .int .i64 me, .int .i64 1, .int .i64 view, .int .i64 0, .int .i64 0, .int .i64 0, .slice none 0 0, .int .i64 0, .int .i64 0, .int .i64 0, .bool false]).setCell ⟨w6.heap.size, 6, none⟩ (.int .i64 (P - 1))).cell? ⟨w6.heap.size, 10, none⟩ = some (.int .i64 0) := KA.out.cell rfl
  have f10 := KA.out.free 10
  have KB := Lib.hid (show Blk ((((w6.alloc (.cells #[.int .i64 0, .int .i64 0, .int .i64 0, .int .i64 0, .int .i64 0, .int .i64 0, .int .i64 0, .int .i64 0, .slice none 0 0, .int .i64 0, .int .i64 0, .int .i64 0, .bool false] 47)).setRow w6.heap.size #[.int .i64 kind, .int .i64 o, .int .i64 me, .int .i64 1, .int .i64 view, .int .i64 0, .int .i64 0, .int .i64 0, .slice none 0 0, .int .i64 0, .int .i64 0, .int .i64 0, .bool false]).setCell ⟨w6.heap.size, 6, none⟩ (.int .i64 (P - 1))).setCell ⟨w6.heap.size, 10, none⟩ (.int .i64 (2 + q))) w6.heap.size 47 (mcs (fgM kind o me view (P - 1) (2 + q) false) none 0) from KA.out.set 10 _)
  have k12 : ((((w6.alloc (.cells #[.int .i64 0, .int .i64 0, .int .i64 0, .int .i64 0, .int .i64 0, .int .i64 0, .int .i64 0, .int .i64 0, .slice none 0 0, .int .i64 0, .int .i64 0, .int .i64 0, .bool false] 47)).setRow w6.heap.size #[.int .i64 kind, .int .i64 o, .int .i64 me, .int .i64 1, .int .i64 view, .int .i64 0, .int .i64 0, .int .i64 0, .slice none 0 0, .int .i64 0, .int .i64 0, .int .i64 0, .bool false]).setCell ⟨w6.heap.size, 6, none⟩ (.int .i64 (P - 1))).setCell ⟨w6.heap.size, 10, none⟩ (.int .i64 (2 + q))).cell? ⟨w6.heap.size, 12, none⟩ = some (.bool false) := KB.out.cell rfl
  have f12 := KB.out.free 12
  have KC := Lib.hid (show Blk (((((w6.alloc (.cells #[.int .i64 0, .int .i64 0, .int .i64 0, .int .i64 0, .int .i64 0, .int .i64 0, .int .i64 0, .int .i64 0, .slice none 0 0, .int .i64 0, .int .i64 0, .int .i64 0, .bool false] 47)).setRow w6.heap.size #[.int .i64 kind, .int .i64 o, .int .i64 me, .int .i64 1, .int .i64 view, .int .i64 0, .int .i64 0, .int .i64 0, .slice none 0 0, .int .i64 0, .int .i64 0, .int .i64 0, .bool false]).setCell ⟨w6.heap.size, 6, none⟩ (.int .i64 (P - 1))).setCell ⟨w6.heap.size, 10, none⟩ (.int .i64 (2 + q))).setCell ⟨w6.heap.size, 12, none⟩ (.bool yes)) w6.heap.size 47 (mcs (fgM kind o me view (P - 1) (2 + q) yes) none 0) from KB.out.set 12 _)
  have bC : Hid (Below w6.heap.size w6 (((((w6.alloc (.cells #[.int .i64 0, .int .i64 0, .int .i64 0, .int .i64 0, .int .i64 0, .int .i64 0, .int .i64 0, .int .i64 0, .slice none 0 0, .int .i64 0, .int .i64 0, .int .i64 0, .bool false] 47)).setRow w6.heap.size #[.int .i64 kind, .int .i64 o, .int .i64 me, .int .i64 1, .int .i64 view, .int .i64 0, .int .i64 0, .int .i64 0, .slice none 0 0, .int .i64 0, .int .i64 0, .int .i64 0, .bool false]).setCell ⟨w6.heap.size, 6, none⟩ (.int .i64 (P - 1))).setCell ⟨w6.heap.size, 10, none⟩ (.int .i64 (2 + q))).setCell ⟨w6.heap.size, 12, none⟩ (.bool yes))) := Lib.hid (by
    have q1 := b7.out.trans (grown_below (grown_set ((w6.alloc (.cells #[.int .i64 0, .int .i64 0, .int .i64 0, .int .i64 0, .int .i64 0, .int .i64 0, .int .i64 0, .int .i64 0, .slice none 0 0, .int .i64 0, .int .i64 0, .int .i64 0, .bool false] 47)).setRow w6.heap.size #[.int .i64 kind, .int .i64 o, .int .i64 me, .int .i64 1, .int .i64 view, .int .i64 0, .int .i64 0, .int .i64 0, .slice none 0 0, .int .i64 0, .int .i64 0, .int .i64 0, .bool false]) w6.heap.size 6 (.int .i64 (P - 1))) (Nat.le_refl _) b7.out.size)
    have q2 := q1.trans (grown_below (grown_set (((w6.alloc (.cells #[.int .i64 0, .int .i64 0, .int .i64 0, .int .i64 0, .int .i64 0, .int .i64 0, .int .i64 0, .int .i64 0, .slice none 0 0, .int .i64 0, .int .i64 0, .int .i64 0, .bool false] 47)).setRow w6.heap.size #[.int .i64 kind, .int .i64 o, .int .i64 me, .int .i64 1, .int .i64 view, .int .i64 0, .int .i64 0, .int .i64 0, .slice none 0 0, .int .i64 0, .int .i64 0, .int .i64 0, .bool false]).setCell ⟨w6.heap.size, 6, none⟩ (.int .i64 (P - 1))) w6.heap.size 10 (.int .i64 (2 + q))) (Nat.le_refl _) q1.size)
    exact q2.trans (grown_below (grown_set ((((w6.alloc (.cells #[.int .i64 0, .int .i64 0, .int .i64 0, .int .i64 0, .int .i64 0, .int .i64 0, .int .i64 0, .int .i64 0, .slice none 0 0, .int .i64 0, .int .i64 0, .int .i64 0, .bool false] 47)).setRow w6.heap.size #[.int .i64 kind, .int .i64 o, .int .i64 me, .int .i64 1, .int .i64 view, .int .i64 0, .int .i64 0, .int .i64 0, .slice none 0 0, .int .i64 0, .int .i64 0, .int .i64 0, .bool false]).setCell ⟨w6.heap.size, 6, none⟩ (.int .i64 (P - 1))).setCell ⟨w6.heap.size, 10, none⟩ (.int .i64 (2 + q))) w6.heap.size 12 (.bool yes)) (Nat.le_refl _) q2.size))
  have N8 := Lib.hid (N6.out.past bC.out)
  clear N6 b7 bC
  go_wp2_with (first | ((with_reducible show wpList _ _ _ ((⟨none, Op.store 47 (.tmp 19) _, _, _, _, _⟩ : Oper) :: _) _ _); go_must (refine wpList_store_row rfl 47 (.tmp 19) (.tmp 88) rfl w6.heap.size _ rfl rfl _ _ KZ.out (by kernel_rfl) (by rfl) (by kernel_rfl) ?_)) | ((with_reducible show wpList _ _ _ ((⟨some 101, Op.load _ _, _, _, _, _⟩ : Oper) :: _) _ _); go_must (refine wpList_load_row rfl 47 (.tmp 19) rfl w6.heap.size rfl 47 #[.int .i64 kind, .int .i64 o, .int .i64 me, .int .i64 1, .int .i64 view, .int .i64 0, .int .i64 (P - 1), .int .i64 0, .slice none 0 0, .int .i64 0, .int .i64 (2 + q), .int .i64 0, .bool yes] (0, 0) _ KC.out Tryz.underlying47 rfl (by kernel_rfl) ?_)))
  clear k6 f6 k10 f10 k12 f12 KZ K7 KA KB KC
  generalize (((((w6.alloc (.cells #[.int .i64 0, .int .i64 0, .int .i64 0, .int .i64 0, .int .i64 0, .int .i64 0, .int .i64 0, .int .i64 0, .slice none 0 0, .int .i64 0, .int .i64 0, .int .i64 0, .bool false] 47)).setRow w6.heap.size #[.int .i64 kind, .int .i64 o, .int .i64 me, .int .i64 1, .int .i64 view, .int .i64 0, .int .i64 0, .int .i64 0, .slice none 0 0, .int .i64 0, .int .i64 0, .int .i64 0, .bool false]).setCell ⟨w6.heap.size, 6, none⟩ (.int .i64 (P - 1))).setCell ⟨w6.heap.size, 10, none⟩ (.int .i64 (2 + q))).setCell ⟨w6.heap.size, 12, none⟩ (.bool yes)) = w8 at *
  have hH : Calls Tryz.prog 26 #[.pointer (some ⟨x, 0, none⟩), .agg #[.int .i64 kind, .int .i64 o, .int .i64 me, .int .i64 1, .int .i64 view, .int .i64 0, .int .i64 (P - 1), .int .i64 0, .slice none 0 0, .int .i64 0, .int .i64 (2 + q), .int .i64 0, .bool yes]] w8 (SnPost w w8 x d (cDone (gotP (nwP me n promise) (fgM kind o me view (P - 1) (2 + q) yes)))) := by
    show Calls Tryz.prog 26 #[.pointer (some ⟨x, 0, none⟩), mv (fgM kind o me view (P - 1) (2 + q) yes) none 0] w8 _
    have hm := HM.out
    rw [HPB.out] at hm ⊢
    exact fg_no N8.out HT.out HNN.out HKK.out.1 HKK.out.2 g5 g6 HO.out hm g7 g8 k2 (fun h => absurd h k1)
  refine hH.mono ?_
  clear hH N8 HM
  rintro e w9 ⟨Q, p', A, c, ⟨rfl, rfl⟩, rfl, -, n9, -⟩
  have N9 := Lib.hid n9
  clear n9
  obtain ⟨F9, h9, -⟩ := N9.out.ex
  have H9 := Lib.hid h9
  clear h9
  go_wp2_with fail
  refine (ndView_out H9.out rfl).mono ?_
  rintro e w10 ⟨rfl, b10⟩
  have N10 := Lib.hid (N9.out.past b10)
  have H10 := Lib.hid (H9.out.past b10)
  have D10 : Hid (Ds w10 d 2 promise) := Lib.hid N10.out.disk
  clear b10 H9 N9
  go_wp2_with fail
  refine (ndKnows_c H10.out (b := false) rfl).mono ?_
  rintro e w11 ⟨rfl, rfl⟩
  go_wp2_with fail
  refine (view_c w10 d _ _ D10.out).mono ?_
  rintro e w12 ⟨rfl, rfl⟩
  go_wp2_with fail
  go_ret
  exact ⟨rfl, N10.out.bel⟩

set_option maxHeartbeats 16000000 in
set_option maxRecDepth 100000 in
theorem NodeForgot_n2 (w : World) (ht : Tab w) (n promise view num : Int) (K : Nat) (hN : n = K) (g1 : 3 ≤ n) (g2 : n ≤ 7) (g3 : 0 ≤ promise) (g4 : promise ≤ 40) (g5 : 1 ≤ view) (g6 : view ≤ 60)  :
    Calls Tryz.prog 5 #[.int .i64 n, .int .i64 promise, .int .i64 view, .int .i64 11, .bool false, .int .i64 num] w fun e w' => e = .returned (.bool true) ∧ Below w.heap.size w w' := by
  have HT := Lib.hid ht
  have hd0 := fg_dec (v := view) g5 g1 g2
  obtain ⟨o, ho⟩ : ∃ o, PTeam.decider view n = o := ⟨_, rfl⟩
  rw [ho] at hd0
  obtain ⟨ho1, ho2⟩ := hd0
  have hmod := fg_mod ho1 ho2 g1
  obtain ⟨me, hme⟩ : ∃ me, 1 + o % n = me := ⟨_, rfl⟩
  have q0 : 0 ≤ o % n := by omega
  have q1 : o % n < n := by omega
  rw [hme] at hmod
  obtain ⟨⟨hm1, hm2⟩, hne⟩ := hmod
  obtain ⟨P, hP⟩ : ∃ P : Int, (2 : Int) ^ n.toNat = P := ⟨_, rfl⟩
  have hPb := fg_pow hN g1 g2 hP
  obtain ⟨hP0, hP1, hP2⟩ := hPb
  have hput : PStab.put 0 promise = promise := by unfold PStab.put; split <;> omega
  obtain ⟨q, hq⟩ : ∃ q, bits .and .i64 num 1 = q := ⟨_, rfl⟩
  have hqb := fg_low num
  rw [hq] at hqb
  obtain ⟨hq1, hq2⟩ := hqb
  have HO := Lib.hid ho
  have HME := Lib.hid hme
  have HNN := Lib.hid hN
  have HKK := Lib.hid (show 3 ≤ K ∧ K ≤ 7 by omega)
  have HPB := Lib.hid hP0
  have HPT := Lib.hid hput
  have HM := Lib.hid (fg_may (kind := 11) (o := o) (me := me) (view := view) (mem := P - 1) (num := 2 + q) (yes := false) (by omega) (by omega) (by omega) hne (by omega) (by omega) (by omega))
  have HNE := Lib.hid hne
  clear ht ho hme hN hP0 hput hne
  go_enter Tryz.func5, Tryz.ntmps5
  go_wp2_with fail
  refine (begunN_c w HT.out).mono ?_
  rintro e w1 ⟨rfl, b1⟩
  have b2 := Lib.hid (b1.alloc b1.size (.cells #[.int .i64 0, .int .i64 0] 28))
  have D2 : Hid (Ds (w1.alloc (.cells #[.int .i64 0, .int .i64 0] 28)) w1.heap.size 0 0) := Lib.hid (Blk.new w1 _ _)
  have hd1 := Lib.hid (show w.heap.size ≤ w1.heap.size from b1.size)
  clear b1
  go_wp2_with fail
  refine (start_c _ w1.heap.size 0 0 D2.out (by unfold PStab.Ok; omega) (by omega)).mono ?_
  rintro e w3 ⟨rfl, D3, t3⟩
  have D4 := Lib.hid D3
  have b3 := Lib.hid (b2.out.trans (t3.below (by intro k hk; rw [List.mem_singleton.1 hk]; exact hd1.out) b2.out.size))
  clear D3 t3 D2 b2
  obtain ⟨d, hd⟩ : ∃ d, w1.heap.size = d := ⟨_, rfl⟩
  rw [hd] at D4 hd1
  rw [hd]
  clear hd
  go_wp2_with fail
  refine (prom_c w3 d _ _ D4.out promise).mono ?_
  rintro e w31 ⟨rfl, D31, t31⟩
  rw [HPT.out] at D31
  have D32 := Lib.hid D31
  have b31 := Lib.hid (b3.out.trans (t31.below (by intro k hk; rw [List.mem_singleton.1 hk]; exact hd1.out) b3.out.size))
  clear D31 t31 D4 b3
  go_wp2_with fail
  refine (rtDecider_c w31 view n (by omega) (by omega)).mono ?_
  rw [HO.out]
  rintro e w32 ⟨rfl, rfl⟩
  go_wp2_with fail
  rw [HME.out]
  refine (Sn.make (w0 := w) b31.out (id := me) (n := n) (b := 0 + 1) (pro := promise) D32.out hd1.out g1 g2 hm1 hm2 (by omega) (by omega) g3 (by omega)).mono ?_
  rintro e w4 ⟨x, rfl, n4, -⟩
  have N4 := Lib.hid (show Sn w w4 x d (nwP me n promise) from n4)
  clear n4 D32 b31 hd1
  obtain ⟨F4, h4, -⟩ := N4.out.ex
  have H4 := Lib.hid h4
  clear h4
  go_wp2_with fail
  refine (ndKnows_c H4.out (b := false) rfl).mono ?_
  rintro e w5 ⟨rfl, rfl⟩
  clear H4
  go_wp2_with fail
  have hF : Calls Tryz.prog 27 #[.int .i64 11, .int .i64 o, .int .i64 me, .int .i64 view] w4 fun e w' => e = .returned (.agg #[.int .i64 11, .int .i64 o, .int .i64 me, .int .i64 1, .int .i64 view, .int .i64 0, .int .i64 0, .int .i64 0, .slice none 0 0, .int .i64 0, .int .i64 0, .int .i64 0, .bool false]) ∧ Below w4.heap.size w4 w' := from_c w4 11 o me view
  refine hF.mono ?_
  rintro e w6 ⟨rfl, b6⟩
  have N6 := Lib.hid (N4.out.past b6)
  clear b6 N4 hF
  have KZ := Lib.hid (Blk.new w6 #[.int .i64 0, .int .i64 0, .int .i64 0, .int .i64 0, .int .i64 0, .int .i64 0, .int .i64 0, .int .i64 0, .slice none 0 0, .int .i64 0, .int .i64 0, .int .i64 0, .bool false] 47)
  have K7 := Lib.hid (Blk.row KZ.out #[.int .i64 11, .int .i64 o, .int .i64 me, .int .i64 1, .int .i64 view, .int .i64 0, .int .i64 0, .int .i64 0, .slice none 0 0, .int .i64 0, .int .i64 0, .int .i64 0, .bool false])
  have b7 := Lib.hid (((Below.refl w6.heap.size w6).alloc (Nat.le_refl _) (.cells #[.int .i64 0, .int .i64 0, .int .i64 0, .int .i64 0, .int .i64 0, .int .i64 0, .int .i64 0, .int .i64 0, .slice none 0 0, .int .i64 0, .int .i64 0, .int .i64 0, .bool false] 47)).trans (grown_below (grown_row (w6.alloc (.cells #[.int .i64 0, .int .i64 0, .int .i64 0, .int .i64 0, .int .i64 0, .int .i64 0, .int .i64 0, .int .i64 0, .slice none 0 0, .int .i64 0, .int .i64 0, .int .i64 0, .bool false] 47)) w6.heap.size #[.int .i64 11, .int .i64 o, .int .i64 me, .int .i64 1, .int .i64 view, .int .i64 0, .int .i64 0, .int .i64 0, .slice none 0 0, .int .i64 0, .int .i64 0, .int .i64 0, .bool false]) (Nat.le_refl _) (by simp)))
  have k6 : ((w6.alloc (.cells #[.int .i64 0, .int .i64 0, .int .i64 0, .int .i64 0, .int .i64 0, .int .i64 0, .int .i64 0, .int .i64 0, .slice none 0 0, .int .i64 0, .int .i64 0, .int .i64 0, .bool false] 47)).setRow w6.heap.size #[.int .i64 11, .int .i64 o, .int .i64 me, .int .i64 1, .int .i64 view, .int .i64 0, .int .i64 0, .int .i64 0, .slice none 0 0, .int .i64 0, .int .i64 0, .int .i64 0, .bool false]).cell? ⟨w6.heap.size, 6, none⟩ = some (.int .i64 0) := K7.out.cell rfl
  have f6 := K7.out.free 6
  have KA := Lib.hid (show Blk (((w6.alloc (.cells #[.int .i64 0, .int .i64 0, .int .i64 0, .int .i64 0, .int .i64 0, .int .i64 0, .int .i64 0, .int .i64 0, .slice none 0 0, .int .i64 0, .int .i64 0, .int .i64 0, .bool false] 47)).setRow w6.heap.size #[.int .i64 11, .int .i64 o, .int .i64 me, .int .i64 1, .int .i64 view, .int .i64 0, .int .i64 0, .int .i64 0, .slice none 0 0, .int .i64 0, .int .i64 0, .int .i64 0, .bool false]).setCell ⟨w6.heap.size, 6, none⟩ (.int .i64 (P - 1))) w6.heap.size 47 (mcs (fgM 11 o me view (P - 1) 0 false) none 0) from K7.out.set 6 _)
  have k10 : (((w6.alloc (.cells #[.int .i64 0, .int .i64 0, .int .i64 0, .int .i64 0, .int .i64 0, .int .i64 0, .int .i64 0, .int .i64 0, .slice none 0 0, .int .i64 0, .int .i64 0, .int .i64 0, .bool false] 47)).setRow w6.heap.size #[.int .i64 11, .int .i64 o, .int .i64 me, .int .i64 1, .int .i64 view, .int .i64 0, .int .i64 0, .int .i64 0, .slice none 0 0, .int .i64 0, .int .i64 0, .int .i64 0, .bool false]).setCell ⟨w6.heap.size, 6, none⟩ (.int .i64 (P - 1))).cell? ⟨w6.heap.size, 10, none⟩ = some (.int .i64 0) := KA.out.cell rfl
  have f10 := KA.out.free 10
  have KB := Lib.hid (show Blk ((((w6.alloc (.cells #[.int .i64 0, .int .i64 0, .int .i64 0, .int .i64 0, .int .i64 0, .int .i64 0, .int .i64 0, .int .i64 0, .slice none 0 0, .int .i64 0, .int .i64 0, .int .i64 0, .bool false] 47)).setRow w6.heap.size #[.int .i64 11, .int .i64 o, .int .i64 me, .int .i64 1, .int .i64 view, .int .i64 0, .int .i64 0, .int .i64 0, .slice none 0 0, .int .i64 0, .int .i64 0, .int .i64 0, .bool false]).setCell ⟨w6.heap.size, 6, none⟩ (.int .i64 (P - 1))).setCell ⟨w6.heap.size, 10, none⟩ (.int .i64 (2 + q))) w6.heap.size 47 (mcs (fgM 11 o me view (P - 1) (2 + q) false) none 0) from KA.out.set 10 _)
  have k12 : ((((w6.alloc (.cells #[.int .i64 0, .int .i64 0, .int .i64 0, .int .i64 0, .int .i64 0, .int .i64 0, .int .i64 0, .int .i64 0, .slice none 0 0, .int .i64 0, .int .i64 0, .int .i64 0, .bool false] 47)).setRow w6.heap.size #[.int .i64 11, .int .i64 o, .int .i64 me, .int .i64 1, .int .i64 view, .int .i64 0, .int .i64 0, .int .i64 0, .slice none 0 0, .int .i64 0, .int .i64 0, .int .i64 0, .bool false]).setCell ⟨w6.heap.size, 6, none⟩ (.int .i64 (P - 1))).setCell ⟨w6.heap.size, 10, none⟩ (.int .i64 (2 + q))).cell? ⟨w6.heap.size, 12, none⟩ = some (.bool false) := KB.out.cell rfl
  have f12 := KB.out.free 12
  have KC := Lib.hid (show Blk (((((w6.alloc (.cells #[.int .i64 0, .int .i64 0, .int .i64 0, .int .i64 0, .int .i64 0, .int .i64 0, .int .i64 0, .int .i64 0, .slice none 0 0, .int .i64 0, .int .i64 0, .int .i64 0, .bool false] 47)).setRow w6.heap.size #[.int .i64 11, .int .i64 o, .int .i64 me, .int .i64 1, .int .i64 view, .int .i64 0, .int .i64 0, .int .i64 0, .slice none 0 0, .int .i64 0, .int .i64 0, .int .i64 0, .bool false]).setCell ⟨w6.heap.size, 6, none⟩ (.int .i64 (P - 1))).setCell ⟨w6.heap.size, 10, none⟩ (.int .i64 (2 + q))).setCell ⟨w6.heap.size, 12, none⟩ (.bool false)) w6.heap.size 47 (mcs (fgM 11 o me view (P - 1) (2 + q) false) none 0) from KB.out.set 12 _)
  have bC : Hid (Below w6.heap.size w6 (((((w6.alloc (.cells #[.int .i64 0, .int .i64 0, .int .i64 0, .int .i64 0, .int .i64 0, .int .i64 0, .int .i64 0, .int .i64 0, .slice none 0 0, .int .i64 0, .int .i64 0, .int .i64 0, .bool false] 47)).setRow w6.heap.size #[.int .i64 11, .int .i64 o, .int .i64 me, .int .i64 1, .int .i64 view, .int .i64 0, .int .i64 0, .int .i64 0, .slice none 0 0, .int .i64 0, .int .i64 0, .int .i64 0, .bool false]).setCell ⟨w6.heap.size, 6, none⟩ (.int .i64 (P - 1))).setCell ⟨w6.heap.size, 10, none⟩ (.int .i64 (2 + q))).setCell ⟨w6.heap.size, 12, none⟩ (.bool false))) := Lib.hid (by
    have q1 := b7.out.trans (grown_below (grown_set ((w6.alloc (.cells #[.int .i64 0, .int .i64 0, .int .i64 0, .int .i64 0, .int .i64 0, .int .i64 0, .int .i64 0, .int .i64 0, .slice none 0 0, .int .i64 0, .int .i64 0, .int .i64 0, .bool false] 47)).setRow w6.heap.size #[.int .i64 11, .int .i64 o, .int .i64 me, .int .i64 1, .int .i64 view, .int .i64 0, .int .i64 0, .int .i64 0, .slice none 0 0, .int .i64 0, .int .i64 0, .int .i64 0, .bool false]) w6.heap.size 6 (.int .i64 (P - 1))) (Nat.le_refl _) b7.out.size)
    have q2 := q1.trans (grown_below (grown_set (((w6.alloc (.cells #[.int .i64 0, .int .i64 0, .int .i64 0, .int .i64 0, .int .i64 0, .int .i64 0, .int .i64 0, .int .i64 0, .slice none 0 0, .int .i64 0, .int .i64 0, .int .i64 0, .bool false] 47)).setRow w6.heap.size #[.int .i64 11, .int .i64 o, .int .i64 me, .int .i64 1, .int .i64 view, .int .i64 0, .int .i64 0, .int .i64 0, .slice none 0 0, .int .i64 0, .int .i64 0, .int .i64 0, .bool false]).setCell ⟨w6.heap.size, 6, none⟩ (.int .i64 (P - 1))) w6.heap.size 10 (.int .i64 (2 + q))) (Nat.le_refl _) q1.size)
    exact q2.trans (grown_below (grown_set ((((w6.alloc (.cells #[.int .i64 0, .int .i64 0, .int .i64 0, .int .i64 0, .int .i64 0, .int .i64 0, .int .i64 0, .int .i64 0, .slice none 0 0, .int .i64 0, .int .i64 0, .int .i64 0, .bool false] 47)).setRow w6.heap.size #[.int .i64 11, .int .i64 o, .int .i64 me, .int .i64 1, .int .i64 view, .int .i64 0, .int .i64 0, .int .i64 0, .slice none 0 0, .int .i64 0, .int .i64 0, .int .i64 0, .bool false]).setCell ⟨w6.heap.size, 6, none⟩ (.int .i64 (P - 1))).setCell ⟨w6.heap.size, 10, none⟩ (.int .i64 (2 + q))) w6.heap.size 12 (.bool false)) (Nat.le_refl _) q2.size))
  have N8 := Lib.hid (N6.out.past bC.out)
  clear N6 b7 bC
  go_wp2_with (first | ((with_reducible show wpList _ _ _ ((⟨none, Op.store 47 (.tmp 19) _, _, _, _, _⟩ : Oper) :: _) _ _); go_must (refine wpList_store_row rfl 47 (.tmp 19) (.tmp 88) rfl w6.heap.size _ rfl rfl _ _ KZ.out (by kernel_rfl) (by rfl) (by kernel_rfl) ?_)) | ((with_reducible show wpList _ _ _ ((⟨some 101, Op.load _ _, _, _, _, _⟩ : Oper) :: _) _ _); go_must (refine wpList_load_row rfl 47 (.tmp 19) rfl w6.heap.size rfl 47 #[.int .i64 11, .int .i64 o, .int .i64 me, .int .i64 1, .int .i64 view, .int .i64 0, .int .i64 (P - 1), .int .i64 0, .slice none 0 0, .int .i64 0, .int .i64 (2 + q), .int .i64 0, .bool false] (0, 0) _ KC.out Tryz.underlying47 rfl (by kernel_rfl) ?_)))
  clear k6 f6 k10 f10 k12 f12 KZ K7 KA KB KC
  generalize (((((w6.alloc (.cells #[.int .i64 0, .int .i64 0, .int .i64 0, .int .i64 0, .int .i64 0, .int .i64 0, .int .i64 0, .int .i64 0, .slice none 0 0, .int .i64 0, .int .i64 0, .int .i64 0, .bool false] 47)).setRow w6.heap.size #[.int .i64 11, .int .i64 o, .int .i64 me, .int .i64 1, .int .i64 view, .int .i64 0, .int .i64 0, .int .i64 0, .slice none 0 0, .int .i64 0, .int .i64 0, .int .i64 0, .bool false]).setCell ⟨w6.heap.size, 6, none⟩ (.int .i64 (P - 1))).setCell ⟨w6.heap.size, 10, none⟩ (.int .i64 (2 + q))).setCell ⟨w6.heap.size, 12, none⟩ (.bool false)) = w8 at *
  have hH : Calls Tryz.prog 26 #[.pointer (some ⟨x, 0, none⟩), .agg #[.int .i64 11, .int .i64 o, .int .i64 me, .int .i64 1, .int .i64 view, .int .i64 0, .int .i64 (P - 1), .int .i64 0, .slice none 0 0, .int .i64 0, .int .i64 (2 + q), .int .i64 0, .bool false]] w8 (SnPost w w8 x d (cDone (gotP (nwP me n promise) (fgM 11 o me view (P - 1) (2 + q) false)))) := by
    show Calls Tryz.prog 26 #[.pointer (some ⟨x, 0, none⟩), mv (fgM 11 o me view (P - 1) (2 + q) false) none 0] w8 _
    have hm := HM.out
    rw [HPB.out] at hm ⊢
    exact fg_no N8.out HT.out HNN.out HKK.out.1 HKK.out.2 g5 g6 HO.out hm (by decide) (by decide) (by decide) (fun _ => rfl)
  refine hH.mono ?_
  clear hH N8 HM
  rintro e w9 ⟨Q, p', A, c, ⟨rfl, rfl⟩, rfl, -, n9, -⟩
  have N9 := Lib.hid n9
  clear n9
  obtain ⟨F9, h9, -⟩ := N9.out.ex
  have H9 := Lib.hid h9
  clear h9
  go_wp2_with fail
  refine (ndView_out H9.out rfl).mono ?_
  rintro e w10 ⟨rfl, b10⟩
  have N10 := Lib.hid (N9.out.past b10)
  have H10 := Lib.hid (H9.out.past b10)
  have D10 : Hid (Ds w10 d 2 promise) := Lib.hid N10.out.disk
  clear b10 H9 N9
  go_wp2_with fail
  refine (ndKnows_c H10.out (b := false) rfl).mono ?_
  rintro e w11 ⟨rfl, rfl⟩
  go_wp2_with fail
  refine (view_c w10 d _ _ D10.out).mono ?_
  rintro e w12 ⟨rfl, rfl⟩
  go_wp2_with fail
  go_ret
  exact ⟨rfl, N10.out.bel⟩
end Go.Proofs.YtfolifhgmdglaaaGreatDoor

