/- The walk of NodePing. -/
import Derived.Test.YtfolifhgmdglaaaGreatDoorSeg22
namespace Go.Proofs.YtfolifhgmdglaaaGreatDoor
open Go.RowKit PNode

/-- The ping. -/
def pingN (num : Int) : Msg := ⟨12, 1, 2, 1, 0, 0, 0, 0, [], 0, num, 0, false⟩
theorem may_m {kind id dst view mem num : Int} {es : List Ent} {yes : Bool} (k : 1 ≤ kind ∧ kind ≤ 13) (i : 1 ≤ id ∧ id ≤ 7) (d : 1 ≤ dst ∧ dst ≤ 7) (ne : id ≠ dst) (v : 0 ≤ view ∧ view ≤ 1099511627776) (m : 0 ≤ mem ∧ mem ≤ 127) (n : 0 ≤ num ∧ num ≤ 1099511627776) (e1 : es.length ≤ 60) (e2 : es.all PEnt.may = true) :
    PMsg.may ⟨kind, id, dst, 1, view, 0, mem, 0, es, 0, num, 0, yes⟩ = true :=
  (PMsg.may_iff _).2 ⟨k, i, d, ne, by show (1 : Int) ≤ 1 ∧ (1 : Int) ≤ _; decide, v, by show (0 : Int) ≤ 0 ∧ (0 : Int) ≤ _; decide, m, by show (0 : Int) ≤ 0 ∧ (0 : Int) ≤ _; decide, by show (0 : Int) ≤ 0 ∧ (0 : Int) ≤ _; decide, n, by show (0 : Int) ≤ 0 ∧ (0 : Int) ≤ _; decide, e1, e2⟩

set_option maxHeartbeats 8000000 in
set_option maxRecDepth 100000 in
theorem NodePing_false (w : World) (ht : Tab w) (n num ticks : Int) (g1 : 3 ≤ n) (g2 : n ≤ 7) (g3 : 0 ≤ num) (g4 : num ≤ 1099511627776) (g5 : 0 ≤ ticks) (g6 : ticks ≤ 30) :
    Calls Tryz.prog 6 #[.int .i64 n, .int .i64 num, .int .i64 ticks, .bool false] w fun e w' => e = .returned (.bool true) ∧ Below w.heap.size w w' := by
  have HT := Lib.hid ht
  have HM := Lib.hid (may_m (kind := 12) (id := 1) (dst := 2) (view := 0) (mem := 0) (num := num) (es := []) (yes := false) (by omega) (by omega) (by omega) (by omega) (by omega) (by omega) ⟨g3, g4⟩ (by simp) rfl)
  clear ht
  go_enter Tryz.func6, Tryz.ntmps6
  go_wp2_with fail
  refine (begunN_c w HT.out).mono ?_
  rintro e w1 ⟨rfl, b1⟩
  have b2 := Lib.hid (b1.alloc b1.size (.cells #[.int .i64 0, .int .i64 0] 28))
  have D2 : Hid (Ds (w1.alloc (.cells #[.int .i64 0, .int .i64 0] 28)) w1.heap.size 0 0) := Lib.hid (Blk.new w1 _ _)
  have hd1 := Lib.hid (show w.heap.size ≤ w1.heap.size from b1.size)
  clear b1
  go_wp2_with fail
  refine (Sn.make (w0 := w) b2.out (id := 2) (n := n) (b := 0) D2.out hd1.out g1 g2 (by omega) (by omega) (by omega) (by omega) (by omega) (by omega)).mono ?_
  rintro e w4 ⟨x, rfl, n4, -⟩
  have N4 := Lib.hid n4
  obtain ⟨d, hd⟩ : ∃ d, w1.heap.size = d := ⟨_, rfl⟩
  rw [hd] at N4
  rw [hd]
  clear n4 hd hd1
  go_wp2_with fail
  go_loopw [13] (fun s13 wr => ∃ (k : Nat) (p : Np), s13 = .int .i64 (k : Int) ∧ (k : Int) ≤ ticks ∧ Hid (Pg 2 n (0 + 1) k p) ∧ Hid (Sn w wr x d p)) (fun s13 _ => (ticks - intOf s13).toNat)
  case atStart => exact ⟨0, _, rfl, g5, Lib.hid (Pg.new 2 n (0 + 1)), N4⟩
  case round =>
    obtain ⟨k, p, rfl, hk, HP, NK⟩ := hrel
    by_cases hlt : (k : Int) < ticks
    · go_wp2_with fail
      refine (NK.out.tick HP.out (by omega) (by omega)).mono ?_
      rintro e w5 ⟨Q, p', A, c, hp', rfl, -, n5, -⟩
      have N5 := Lib.hid n5
      have HP5 := Lib.hid hp'
      clear n5 hp'
      go_wp2_with fail
      go_roundw
      case rel => exact ⟨k + 1, p', by go_num, by omega, HP5, N5⟩
      case measure => simp [intOf]; omega
    · have hkt : (k : Int) = ticks := by omega
      go_wp2_with fail
      have hF : Calls Tryz.prog 27 #[.int .i64 12, .int .i64 1, .int .i64 2, .int .i64 0] wr fun e w' => e = .returned (.agg #[.int .i64 12, .int .i64 1, .int .i64 2, .int .i64 1, .int .i64 0, .int .i64 0, .int .i64 0, .int .i64 0, .slice none 0 0, .int .i64 0, .int .i64 0, .int .i64 0, .bool false]) ∧ Below wr.heap.size wr w' := from_c wr 12 1 2 0
      refine hF.mono ?_
      rintro e w6 ⟨rfl, b6⟩
      have N6 := Lib.hid (NK.out.past b6)
      have KZ := Lib.hid (Blk.new w6 #[.int .i64 0, .int .i64 0, .int .i64 0, .int .i64 0, .int .i64 0, .int .i64 0, .int .i64 0, .int .i64 0, .slice none 0 0, .int .i64 0, .int .i64 0, .int .i64 0, .bool false] 47)
      have K7 := Lib.hid (Blk.row KZ.out #[.int .i64 12, .int .i64 1, .int .i64 2, .int .i64 1, .int .i64 0, .int .i64 0, .int .i64 0, .int .i64 0, .slice none 0 0, .int .i64 0, .int .i64 0, .int .i64 0, .bool false])
      have b7 := Lib.hid (((Below.refl w6.heap.size w6).alloc (Nat.le_refl _) (.cells #[.int .i64 0, .int .i64 0, .int .i64 0, .int .i64 0, .int .i64 0, .int .i64 0, .int .i64 0, .int .i64 0, .slice none 0 0, .int .i64 0, .int .i64 0, .int .i64 0, .bool false] 47)).trans (grown_below (grown_row (w6.alloc (.cells #[.int .i64 0, .int .i64 0, .int .i64 0, .int .i64 0, .int .i64 0, .int .i64 0, .int .i64 0, .int .i64 0, .slice none 0 0, .int .i64 0, .int .i64 0, .int .i64 0, .bool false] 47)) w6.heap.size #[.int .i64 12, .int .i64 1, .int .i64 2, .int .i64 1, .int .i64 0, .int .i64 0, .int .i64 0, .int .i64 0, .slice none 0 0, .int .i64 0, .int .i64 0, .int .i64 0, .bool false]) (Nat.le_refl _) (by simp)))
      have N7 := Lib.hid (N6.out.past b7.out)
      have k10 : ((w6.alloc (.cells #[.int .i64 0, .int .i64 0, .int .i64 0, .int .i64 0, .int .i64 0, .int .i64 0, .int .i64 0, .int .i64 0, .slice none 0 0, .int .i64 0, .int .i64 0, .int .i64 0, .bool false] 47)).setRow w6.heap.size #[.int .i64 12, .int .i64 1, .int .i64 2, .int .i64 1, .int .i64 0, .int .i64 0, .int .i64 0, .int .i64 0, .slice none 0 0, .int .i64 0, .int .i64 0, .int .i64 0, .bool false]).cell? ⟨w6.heap.size, 10, none⟩ = some (.int .i64 0) := K7.out.cell rfl
      have f10 := K7.out.free 10
      have K8 := Lib.hid (show Blk (((w6.alloc (.cells #[.int .i64 0, .int .i64 0, .int .i64 0, .int .i64 0, .int .i64 0, .int .i64 0, .int .i64 0, .int .i64 0, .slice none 0 0, .int .i64 0, .int .i64 0, .int .i64 0, .bool false] 47)).setRow w6.heap.size #[.int .i64 12, .int .i64 1, .int .i64 2, .int .i64 1, .int .i64 0, .int .i64 0, .int .i64 0, .int .i64 0, .slice none 0 0, .int .i64 0, .int .i64 0, .int .i64 0, .bool false]).setCell ⟨w6.heap.size, 10, none⟩ (.int .i64 num)) w6.heap.size 47 (mcs (pingN num) none 0) from K7.out.set 10 _)
      have N8 := Lib.hid (N6.out.past (b7.out.trans (grown_below (grown_set ((w6.alloc (.cells #[.int .i64 0, .int .i64 0, .int .i64 0, .int .i64 0, .int .i64 0, .int .i64 0, .int .i64 0, .int .i64 0, .slice none 0 0, .int .i64 0, .int .i64 0, .int .i64 0, .bool false] 47)).setRow w6.heap.size #[.int .i64 12, .int .i64 1, .int .i64 2, .int .i64 1, .int .i64 0, .int .i64 0, .int .i64 0, .int .i64 0, .slice none 0 0, .int .i64 0, .int .i64 0, .int .i64 0, .bool false]) w6.heap.size 10 (.int .i64 num)) (Nat.le_refl _) b7.out.size)))
      clear b6 NK N4 N7 b7
      go_wp2_with (first | ((with_reducible show wpList _ _ _ ((⟨none, Op.store 47 (.tmp 14) _, _, _, _, _⟩ : Oper) :: _) _ _); go_must (refine wpList_store_row rfl 47 (.tmp 14) (.tmp 60) rfl w6.heap.size _ rfl rfl _ _ KZ.out (by kernel_rfl) (by rfl) (by kernel_rfl) ?_)) | ((with_reducible show wpList _ _ _ ((⟨some 64, Op.load _ _, _, _, _, _⟩ : Oper) :: _) _ _); go_must (refine wpList_load_row rfl 47 (.tmp 14) rfl w6.heap.size rfl 47 #[.int .i64 12, .int .i64 1, .int .i64 2, .int .i64 1, .int .i64 0, .int .i64 0, .int .i64 0, .int .i64 0, .slice none 0 0, .int .i64 0, .int .i64 num, .int .i64 0, .bool false] (0, 0) _ K8.out Tryz.underlying47 rfl (by kernel_rfl) ?_)))
      clear k10 f10 KZ K7 K8
      generalize ((w6.alloc (.cells #[.int .i64 0, .int .i64 0, .int .i64 0, .int .i64 0, .int .i64 0, .int .i64 0, .int .i64 0, .int .i64 0, .slice none 0 0, .int .i64 0, .int .i64 0, .int .i64 0, .bool false] 47)).setRow w6.heap.size #[.int .i64 12, .int .i64 1, .int .i64 2, .int .i64 1, .int .i64 0, .int .i64 0, .int .i64 0, .int .i64 0, .slice none 0 0, .int .i64 0, .int .i64 0, .int .i64 0, .bool false]).setCell ⟨w6.heap.size, 10, none⟩ (.int .i64 num) = w8 at *
      refine (hearL_of N8.out (pingN num) none 0 (Rd.nil _ _ _) HT.out HM.out (by rw [HP.out.eid, HP.out.G]; rfl) (C := cOne (gotP p (pingN num)) 1 (pongM (gotP p (pingN num)) num) (gotP p (pingN num))) (fun Q p' hh => by obtain ⟨_, _, _, e⟩ := hh; rw [e]; exact ⟨HP.out.L, HP.out.com⟩) (fun w1 F1 A1 c1 h1 => hd_ping h1 (pingN num) A1 c1 rfl) (fun w1 F1 A1 c1 h1 r1 => heed_ping h1 (pingN num) A1 c1 rfl)).mono ?_
      rintro e w9 ⟨Q, p', A, c, ⟨A9, c9, rfl, rfl⟩, rfl, o9, n9, -⟩
      obtain ⟨g, rfl, -, hg⟩ := o9.some (by simp)
      have k0 : w9.cell? ⟨g, 0, none⟩ = some (.int .i64 13) := (o9.cell rfl (i := 0) rfl).1
      have k2 : w9.cell? ⟨g, 2, none⟩ = some (.int .i64 1) := (o9.cell rfl (i := 2) rfl).1
      have k10 : w9.cell? ⟨g, 10, none⟩ = some (.int .i64 num) := (o9.cell rfl (i := 10) rfl).1
      have k11 : w9.cell? ⟨g, 11, none⟩ = some (.int .i64 ticks) := by
        have := (o9.cell rfl (i := 11) (u := .int .i64 p.clock) rfl).1
        rw [HP.out.clock, hkt] at this
        exact this
      obtain ⟨F9, h9, -⟩ := n9.ex
      have H9 := Lib.hid h9
      have B9 := Lib.hid n9.bel
      have HCL := Lib.hid (show (gotP p (pingN num)).clock = ticks by rw [← hkt]; exact HP.out.clock)
      clear o9 n9 h9 N8 N6 hkt
      go_wp2_with fail
      refine (ndClock_c H9.out).mono ?_
      rintro e w10 ⟨rfl, rfl⟩
      rw [HCL.out]
      go_wp2_with fail
      go_ret
      exact ⟨rfl, B9.out⟩

set_option maxHeartbeats 8000000 in
set_option maxRecDepth 100000 in
theorem NodePing_true (w : World) (ht : Tab w) (n num ticks : Int) (g1 : 3 ≤ n) (g2 : n ≤ 7) (g3 : 0 ≤ num) (g4 : num ≤ 1099511627776) (g5 : 0 ≤ ticks) (g6 : ticks ≤ 30) :
    Calls Tryz.prog 6 #[.int .i64 n, .int .i64 num, .int .i64 ticks, .bool true] w fun e w' => e = .returned (.bool true) ∧ Below w.heap.size w w' := by
  have HT := Lib.hid ht
  have HM := Lib.hid (may_m (kind := 12) (id := 1) (dst := 2) (view := 0) (mem := 0) (num := num) (es := []) (yes := false) (by omega) (by omega) (by omega) (by omega) (by omega) (by omega) ⟨g3, g4⟩ (by simp) rfl)
  clear ht
  go_enter Tryz.func6, Tryz.ntmps6
  go_wp2_with fail
  refine (begunN_c w HT.out).mono ?_
  rintro e w1 ⟨rfl, b1⟩
  have b2 := Lib.hid (b1.alloc b1.size (.cells #[.int .i64 0, .int .i64 0] 28))
  have D2 : Hid (Ds (w1.alloc (.cells #[.int .i64 0, .int .i64 0] 28)) w1.heap.size 0 0) := Lib.hid (Blk.new w1 _ _)
  have hd1 := Lib.hid (show w.heap.size ≤ w1.heap.size from b1.size)
  clear b1
  go_wp2_with fail
  refine (start_c _ w1.heap.size 0 0 D2.out (by unfold PStab.Ok; omega) (by omega)).mono ?_
  rintro e w3 ⟨rfl, D3, t3⟩
  have D4 := Lib.hid D3
  have b3 := Lib.hid (b2.out.trans (t3.below (by intro k hk; rw [List.mem_singleton.1 hk]; exact hd1.out) b2.out.size))
  clear D3 t3 D2 b2
  go_wp2_with fail
  refine (Sn.make (w0 := w) b3.out (id := 2) (n := n) (b := 0 + 1) D4.out hd1.out g1 g2 (by omega) (by omega) (by omega) (by omega) (by omega) (by omega)).mono ?_
  rintro e w4 ⟨x, rfl, n4, -⟩
  have N4 := Lib.hid n4
  obtain ⟨d, hd⟩ : ∃ d, w1.heap.size = d := ⟨_, rfl⟩
  rw [hd] at N4
  rw [hd]
  clear n4 hd hd1
  go_wp2_with fail
  go_loopw [13] (fun s13 wr => ∃ (k : Nat) (p : Np), s13 = .int .i64 (k : Int) ∧ (k : Int) ≤ ticks ∧ Hid (Pg 2 n ((0 + 1) + 1) k p) ∧ Hid (Sn w wr x d p)) (fun s13 _ => (ticks - intOf s13).toNat)
  case atStart => exact ⟨0, _, rfl, g5, Lib.hid (Pg.new 2 n ((0 + 1) + 1)), N4⟩
  case round =>
    obtain ⟨k, p, rfl, hk, HP, NK⟩ := hrel
    by_cases hlt : (k : Int) < ticks
    · go_wp2_with fail
      refine (NK.out.tick HP.out (by omega) (by omega)).mono ?_
      rintro e w5 ⟨Q, p', A, c, hp', rfl, -, n5, -⟩
      have N5 := Lib.hid n5
      have HP5 := Lib.hid hp'
      clear n5 hp'
      go_wp2_with fail
      go_roundw
      case rel => exact ⟨k + 1, p', by go_num, by omega, HP5, N5⟩
      case measure => simp [intOf]; omega
    · have hkt : (k : Int) = ticks := by omega
      go_wp2_with fail
      have hF : Calls Tryz.prog 27 #[.int .i64 12, .int .i64 1, .int .i64 2, .int .i64 0] wr fun e w' => e = .returned (.agg #[.int .i64 12, .int .i64 1, .int .i64 2, .int .i64 1, .int .i64 0, .int .i64 0, .int .i64 0, .int .i64 0, .slice none 0 0, .int .i64 0, .int .i64 0, .int .i64 0, .bool false]) ∧ Below wr.heap.size wr w' := from_c wr 12 1 2 0
      refine hF.mono ?_
      rintro e w6 ⟨rfl, b6⟩
      have N6 := Lib.hid (NK.out.past b6)
      have KZ := Lib.hid (Blk.new w6 #[.int .i64 0, .int .i64 0, .int .i64 0, .int .i64 0, .int .i64 0, .int .i64 0, .int .i64 0, .int .i64 0, .slice none 0 0, .int .i64 0, .int .i64 0, .int .i64 0, .bool false] 47)
      have K7 := Lib.hid (Blk.row KZ.out #[.int .i64 12, .int .i64 1, .int .i64 2, .int .i64 1, .int .i64 0, .int .i64 0, .int .i64 0, .int .i64 0, .slice none 0 0, .int .i64 0, .int .i64 0, .int .i64 0, .bool false])
      have b7 := Lib.hid (((Below.refl w6.heap.size w6).alloc (Nat.le_refl _) (.cells #[.int .i64 0, .int .i64 0, .int .i64 0, .int .i64 0, .int .i64 0, .int .i64 0, .int .i64 0, .int .i64 0, .slice none 0 0, .int .i64 0, .int .i64 0, .int .i64 0, .bool false] 47)).trans (grown_below (grown_row (w6.alloc (.cells #[.int .i64 0, .int .i64 0, .int .i64 0, .int .i64 0, .int .i64 0, .int .i64 0, .int .i64 0, .int .i64 0, .slice none 0 0, .int .i64 0, .int .i64 0, .int .i64 0, .bool false] 47)) w6.heap.size #[.int .i64 12, .int .i64 1, .int .i64 2, .int .i64 1, .int .i64 0, .int .i64 0, .int .i64 0, .int .i64 0, .slice none 0 0, .int .i64 0, .int .i64 0, .int .i64 0, .bool false]) (Nat.le_refl _) (by simp)))
      have N7 := Lib.hid (N6.out.past b7.out)
      have k10 : ((w6.alloc (.cells #[.int .i64 0, .int .i64 0, .int .i64 0, .int .i64 0, .int .i64 0, .int .i64 0, .int .i64 0, .int .i64 0, .slice none 0 0, .int .i64 0, .int .i64 0, .int .i64 0, .bool false] 47)).setRow w6.heap.size #[.int .i64 12, .int .i64 1, .int .i64 2, .int .i64 1, .int .i64 0, .int .i64 0, .int .i64 0, .int .i64 0, .slice none 0 0, .int .i64 0, .int .i64 0, .int .i64 0, .bool false]).cell? ⟨w6.heap.size, 10, none⟩ = some (.int .i64 0) := K7.out.cell rfl
      have f10 := K7.out.free 10
      have K8 := Lib.hid (show Blk (((w6.alloc (.cells #[.int .i64 0, .int .i64 0, .int .i64 0, .int .i64 0, .int .i64 0, .int .i64 0, .int .i64 0, .int .i64 0, .slice none 0 0, .int .i64 0, .int .i64 0, .int .i64 0, .bool false] 47)).setRow w6.heap.size #[.int .i64 12, .int .i64 1, .int .i64 2, .int .i64 1, .int .i64 0, .int .i64 0, .int .i64 0, .int .i64 0, .slice none 0 0, .int .i64 0, .int .i64 0, .int .i64 0, .bool false]).setCell ⟨w6.heap.size, 10, none⟩ (.int .i64 num)) w6.heap.size 47 (mcs (pingN num) none 0) from K7.out.set 10 _)
      have N8 := Lib.hid (N6.out.past (b7.out.trans (grown_below (grown_set ((w6.alloc (.cells #[.int .i64 0, .int .i64 0, .int .i64 0, .int .i64 0, .int .i64 0, .int .i64 0, .int .i64 0, .int .i64 0, .slice none 0 0, .int .i64 0, .int .i64 0, .int .i64 0, .bool false] 47)).setRow w6.heap.size #[.int .i64 12, .int .i64 1, .int .i64 2, .int .i64 1, .int .i64 0, .int .i64 0, .int .i64 0, .int .i64 0, .slice none 0 0, .int .i64 0, .int .i64 0, .int .i64 0, .bool false]) w6.heap.size 10 (.int .i64 num)) (Nat.le_refl _) b7.out.size)))
      clear b6 NK N4 N7 b7
      go_wp2_with (first | ((with_reducible show wpList _ _ _ ((⟨none, Op.store 47 (.tmp 14) _, _, _, _, _⟩ : Oper) :: _) _ _); go_must (refine wpList_store_row rfl 47 (.tmp 14) (.tmp 60) rfl w6.heap.size _ rfl rfl _ _ KZ.out (by kernel_rfl) (by rfl) (by kernel_rfl) ?_)) | ((with_reducible show wpList _ _ _ ((⟨some 64, Op.load _ _, _, _, _, _⟩ : Oper) :: _) _ _); go_must (refine wpList_load_row rfl 47 (.tmp 14) rfl w6.heap.size rfl 47 #[.int .i64 12, .int .i64 1, .int .i64 2, .int .i64 1, .int .i64 0, .int .i64 0, .int .i64 0, .int .i64 0, .slice none 0 0, .int .i64 0, .int .i64 num, .int .i64 0, .bool false] (0, 0) _ K8.out Tryz.underlying47 rfl (by kernel_rfl) ?_)))
      clear k10 f10 KZ K7 K8
      generalize ((w6.alloc (.cells #[.int .i64 0, .int .i64 0, .int .i64 0, .int .i64 0, .int .i64 0, .int .i64 0, .int .i64 0, .int .i64 0, .slice none 0 0, .int .i64 0, .int .i64 0, .int .i64 0, .bool false] 47)).setRow w6.heap.size #[.int .i64 12, .int .i64 1, .int .i64 2, .int .i64 1, .int .i64 0, .int .i64 0, .int .i64 0, .int .i64 0, .slice none 0 0, .int .i64 0, .int .i64 0, .int .i64 0, .bool false]).setCell ⟨w6.heap.size, 10, none⟩ (.int .i64 num) = w8 at *
      refine (hearL_of N8.out (pingN num) none 0 (Rd.nil _ _ _) HT.out HM.out (by rw [HP.out.eid, HP.out.G]; rfl) (C := cOne (gotP p (pingN num)) 1 (pongM (gotP p (pingN num)) num) (gotP p (pingN num))) (fun Q p' hh => by obtain ⟨_, _, _, e⟩ := hh; rw [e]; exact ⟨HP.out.L, HP.out.com⟩) (fun w1 F1 A1 c1 h1 => hd_ping h1 (pingN num) A1 c1 rfl) (fun w1 F1 A1 c1 h1 r1 => heed_ping h1 (pingN num) A1 c1 rfl)).mono ?_
      rintro e w9 ⟨Q, p', A, c, ⟨A9, c9, rfl, rfl⟩, rfl, o9, n9, -⟩
      obtain ⟨g, rfl, -, hg⟩ := o9.some (by simp)
      have k0 : w9.cell? ⟨g, 0, none⟩ = some (.int .i64 13) := (o9.cell rfl (i := 0) rfl).1
      have k2 : w9.cell? ⟨g, 2, none⟩ = some (.int .i64 1) := (o9.cell rfl (i := 2) rfl).1
      have k10 : w9.cell? ⟨g, 10, none⟩ = some (.int .i64 num) := (o9.cell rfl (i := 10) rfl).1
      have k11 : w9.cell? ⟨g, 11, none⟩ = some (.int .i64 ticks) := by
        have := (o9.cell rfl (i := 11) (u := .int .i64 p.clock) rfl).1
        rw [HP.out.clock, hkt] at this
        exact this
      obtain ⟨F9, h9, -⟩ := n9.ex
      have H9 := Lib.hid h9
      have B9 := Lib.hid n9.bel
      have HCL := Lib.hid (show (gotP p (pingN num)).clock = ticks by rw [← hkt]; exact HP.out.clock)
      clear o9 n9 h9 N8 N6 hkt
      go_wp2_with fail
      refine (ndClock_c H9.out).mono ?_
      rintro e w10 ⟨rfl, rfl⟩
      rw [HCL.out]
      go_wp2_with fail
      go_ret
      exact ⟨rfl, B9.out⟩

set_option maxRecDepth 100000 in
theorem NodePing_bad (w : World) (ht : Tab w) (n num ticks : Int) (anew : Bool) (hb : n < 3 ∨ 7 < n ∨ num < 0 ∨ 1099511627776 < num ∨ ticks < 0 ∨ 30 < ticks) :
    Calls Tryz.prog 6 #[.int .i64 n, .int .i64 num, .int .i64 ticks, .bool anew] w fun e w' => e = .returned (.bool true) ∧ Below w.heap.size w w' := by
  have HT := Lib.hid ht
  clear ht
  rcases (by omega : n < 3 ∨ (¬ n < 3 ∧ 7 < n) ∨ (¬ n < 3 ∧ ¬ 7 < n ∧ num < 0) ∨ (¬ n < 3 ∧ ¬ 7 < n ∧ ¬ num < 0 ∧ 1099511627776 < num) ∨ (¬ n < 3 ∧ ¬ 7 < n ∧ ¬ num < 0 ∧ ¬ 1099511627776 < num ∧ ticks < 0) ∨ (¬ n < 3 ∧ ¬ 7 < n ∧ ¬ num < 0 ∧ ¬ 1099511627776 < num ∧ ¬ ticks < 0 ∧ 30 < ticks)) with h | ⟨h1, h⟩ | ⟨h1, h2, h⟩ | ⟨h1, h2, h3, h⟩ | ⟨h1, h2, h3, h4, h⟩ | ⟨h1, h2, h3, h4, h5, h⟩
  all_goals
    clear hb
    go_enter Tryz.func6, Tryz.ntmps6
    go_wp2_with fail
    refine (begunN_c w HT.out).mono ?_
    rintro e w1 ⟨rfl, b1⟩
    have b1' := Lib.hid b1
    clear b1
    go_wp2_with fail
    go_ret
    exact ⟨rfl, b1'.out⟩
theorem NodePing_w (w : World) (ht : Tab w) (n num ticks : Int) (anew : Bool) :
    Calls Tryz.prog 6 #[.int .i64 n, .int .i64 num, .int .i64 ticks, .bool anew] w fun e w' => e = .returned (.bool true) ∧ Below w.heap.size w w' := by
  by_cases hb : n < 3 ∨ 7 < n ∨ num < 0 ∨ 1099511627776 < num ∨ ticks < 0 ∨ 30 < ticks
  · exact NodePing_bad w ht n num ticks anew hb
  · cases anew
    · exact NodePing_false w ht n num ticks (by omega) (by omega) (by omega) (by omega) (by omega) (by omega)
    · exact NodePing_true w ht n num ticks (by omega) (by omega) (by omega) (by omega) (by omega) (by omega)
end Go.Proofs.YtfolifhgmdglaaaGreatDoor

