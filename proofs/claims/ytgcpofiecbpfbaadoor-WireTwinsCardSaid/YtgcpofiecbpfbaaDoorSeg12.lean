/- Legs of WireTwins. -/
import Derived.Test.YtgcpofiecbpfbaaDoorSeg9
import Derived.Test.YtgcpofiecbpfbaaDoorSeg11
import Derived.Deep.CutRange
namespace Go.Proofs.YtgcpofiecbpfbaaDoor
open Go.RowKit

theorem enc_eq {a b : Msg} (ha : PMsg.may a = true) (hb : PMsg.may b = true) : decide (PMsg.enc a = PMsg.enc b) = PMsg.eqM a b := by
  by_cases h : a = b
  · subst h; rw [PMsg.eqM_refl]; simp
  · rw [PMsg.eqM_no h]
    exact decide_eq_false (fun e => h (PMsg.enc_inj ha hb e))

set_option maxHeartbeats 8000000 in
set_option maxRecDepth 100000 in
theorem WireTwins_1 (w : World) (ht : Tab w) (m : Msg) (A : Option Addr) (c : Nat) (ra : Rd w w.heap.size A c 7 m.es.length (els m.es)) (oa : MsgOk m) (which q : Int) (h1 : Int.tmod which 10 = q) (hq1 : -10 < q) (hq2 : q < 10) (h2 : Int.tmod (q + 10) 10 = 1) :
    Calls Tryd.prog 6 #[mv m A c, .int .i64 which] w fun e w' => e = .returned (.bool true) ∧ Below w.heap.size w w' := by
  have OK := Lib.hid oa
  have RA := Lib.hid ra
  have HT := Lib.hid ht
  clear oa ra ht
  have b1 := (Below.refl w.heap.size w).alloc (Nat.le_refl _) (.cells #[.int .i64 m.kind, .int .i64 m.fr, .int .i64 m.dst, .int .i64 m.boot, .int .i64 m.view, .int .i64 m.last, .int .i64 m.mem, .int .i64 m.pos, .slice A m.es.length c, .int .i64 m.com, .int .i64 m.num, .int .i64 m.clk, .bool m.yes] 24)
  have K0 := Blk.new w #[.int .i64 m.kind, .int .i64 m.fr, .int .i64 m.dst, .int .i64 m.boot, .int .i64 m.view, .int .i64 m.last, .int .i64 m.mem, .int .i64 m.pos, .slice A m.es.length c, .int .i64 m.com, .int .i64 m.num, .int .i64 m.clk, .bool m.yes] 24
  show Calls _ _ #[.agg #[.int .i64 m.kind, .int .i64 m.fr, .int .i64 m.dst, .int .i64 m.boot, .int .i64 m.view, .int .i64 m.last, .int .i64 m.mem, .int .i64 m.pos, .slice A m.es.length c, .int .i64 m.com, .int .i64 m.num, .int .i64 m.clk, .bool m.yes], .int .i64 which] _ _
  go_enter Tryd.func6, Tryd.ntmps6
  go_wp2_with fail
  generalize w.alloc (.cells #[.int .i64 m.kind, .int .i64 m.fr, .int .i64 m.dst, .int .i64 m.boot, .int .i64 m.view, .int .i64 m.last, .int .i64 m.mem, .int .i64 m.pos, .slice A m.es.length c, .int .i64 m.com, .int .i64 m.num, .int .i64 m.clk, .bool m.yes] 24) = w1 at *
  refine (begunM_c w1 (HT.out.past b1)).mono ?_
  rintro x w2 ⟨rfl, b2⟩
  have BL2 := Lib.hid (b1.trans (b2.mono b1.size))
  have K2 := Lib.hid (show Blk w2 w.heap.size 24 (mcs m A c) from K0.past b2)
  clear b1 b2 K0
  go_wp2_with ((with_reducible show wpList _ _ _ ((⟨some 12, Op.load _ _, _, _, _, _⟩ : Oper) :: _) _ _); go_must (refine wpList_load_row rfl 24 (.tmp 2) rfl w.heap.size rfl 24 #[.int .i64 m.kind, .int .i64 m.fr, .int .i64 m.dst, .int .i64 m.boot, .int .i64 m.view, .int .i64 m.last, .int .i64 m.mem, .int .i64 m.pos, .slice A m.es.length c, .int .i64 m.com, .int .i64 m.num, .int .i64 m.clk, .bool m.yes] (0, 0) _ K2.out Tryd.underlying24 rfl (by kernel_rfl) ?_))
  refine (lCutM_c w2 m A c ((RA.out.past BL2.out).tight) OK.out.ents).mono ?_
  rintro x w3 ⟨A1, c1, es, rfl, hle, hown, -, b3⟩
  have HLE := Lib.hid hle
  have BL3 := Lib.hid (BL2.out.trans (b3.mono BL2.out.size))
  have K3 := Lib.hid (K2.out.past b3)
  have O3 := Lib.hid (own_from hown BL2.out.size)
  clear b3 hown K2 BL2 hle
  have GG := grown_row w3 w.heap.size #[.int .i64 (withE m es).kind, .int .i64 (withE m es).fr, .int .i64 (withE m es).dst, .int .i64 (withE m es).boot, .int .i64 (withE m es).view, .int .i64 (withE m es).last, .int .i64 (withE m es).mem, .int .i64 (withE m es).pos, .slice A1 (withE m es).es.length c1, .int .i64 (withE m es).com, .int .i64 (withE m es).num, .int .i64 (withE m es).clk, .bool (withE m es).yes]
  have O4 := Lib.hid (own_apartB O3.out K3.out (by decide) GG)
  have BL4 := Lib.hid (BL3.out.trans (grown_below GG (Nat.le_refl _) BL3.out.size))
  have K4 := Lib.hid (show Blk (w3.setRow w.heap.size #[.int .i64 (withE m es).kind, .int .i64 (withE m es).fr, .int .i64 (withE m es).dst, .int .i64 (withE m es).boot, .int .i64 (withE m es).view, .int .i64 (withE m es).last, .int .i64 (withE m es).mem, .int .i64 (withE m es).pos, .slice A1 (withE m es).es.length c1, .int .i64 (withE m es).com, .int .i64 (withE m es).num, .int .i64 (withE m es).clk, .bool (withE m es).yes]) w.heap.size 24 (mcs (withE m es) A1 c1) from K3.out.row #[.int .i64 (withE m es).kind, .int .i64 (withE m es).fr, .int .i64 (withE m es).dst, .int .i64 (withE m es).boot, .int .i64 (withE m es).view, .int .i64 (withE m es).last, .int .i64 (withE m es).mem, .int .i64 (withE m es).pos, .slice A1 (withE m es).es.length c1, .int .i64 (withE m es).com, .int .i64 (withE m es).num, .int .i64 (withE m es).clk, .bool (withE m es).yes])
  clear GG
  go_upto_region 6 with (first | ((with_reducible show wpList _ _ _ ((⟨none, Op.store 24 (.tmp 2) _, _, _, _, _⟩ : Oper) :: _) _ _); go_must (refine wpList_store_row rfl 24 (.tmp 2) (.tmp 13) rfl w.heap.size _ rfl rfl _ _ K3.out (by kernel_rfl) (by rfl) (by kernel_rfl) ?_)) | ((with_reducible show wpList _ _ _ ((⟨some 14, Op.load _ _, _, _, _, _⟩ : Oper) :: _) _ _); go_must (refine wpList_load_row rfl 24 (.tmp 2) rfl w.heap.size rfl 24 #[.int .i64 (withE m es).kind, .int .i64 (withE m es).fr, .int .i64 (withE m es).dst, .int .i64 (withE m es).boot, .int .i64 (withE m es).view, .int .i64 (withE m es).last, .int .i64 (withE m es).mem, .int .i64 (withE m es).pos, .slice A1 (withE m es).es.length c1, .int .i64 (withE m es).com, .int .i64 (withE m es).num, .int .i64 (withE m es).clk, .bool (withE m es).yes] (0, 0) _ K4.out Tryd.underlying24 rfl (by kernel_rfl) ?_)))
  have hsz : (w3.setRow w.heap.size #[.int .i64 (withE m es).kind, .int .i64 (withE m es).fr, .int .i64 (withE m es).dst, .int .i64 (withE m es).boot, .int .i64 (withE m es).view, .int .i64 (withE m es).last, .int .i64 (withE m es).mem, .int .i64 (withE m es).pos, .slice A1 (withE m es).es.length c1, .int .i64 (withE m es).com, .int .i64 (withE m es).num, .int .i64 (withE m es).clk, .bool (withE m es).yes]).heap.size = w3.heap.size := by simp
  have b5 := (Below.refl (w3.setRow w.heap.size #[.int .i64 (withE m es).kind, .int .i64 (withE m es).fr, .int .i64 (withE m es).dst, .int .i64 (withE m es).boot, .int .i64 (withE m es).view, .int .i64 (withE m es).last, .int .i64 (withE m es).mem, .int .i64 (withE m es).pos, .slice A1 (withE m es).es.length c1, .int .i64 (withE m es).com, .int .i64 (withE m es).num, .int .i64 (withE m es).clk, .bool (withE m es).yes]).heap.size (w3.setRow w.heap.size #[.int .i64 (withE m es).kind, .int .i64 (withE m es).fr, .int .i64 (withE m es).dst, .int .i64 (withE m es).boot, .int .i64 (withE m es).view, .int .i64 (withE m es).last, .int .i64 (withE m es).mem, .int .i64 (withE m es).pos, .slice A1 (withE m es).es.length c1, .int .i64 (withE m es).com, .int .i64 (withE m es).num, .int .i64 (withE m es).clk, .bool (withE m es).yes])).alloc (Nat.le_refl _) (.cells #[.int .i64 (withE m es).kind, .int .i64 (withE m es).fr, .int .i64 (withE m es).dst, .int .i64 (withE m es).boot, .int .i64 (withE m es).view, .int .i64 (withE m es).last, .int .i64 (withE m es).mem, .int .i64 (withE m es).pos, .slice A1 (withE m es).es.length c1, .int .i64 (withE m es).com, .int .i64 (withE m es).num, .int .i64 (withE m es).clk, .bool (withE m es).yes] 24)
  have x5 := Blk.new (w3.setRow w.heap.size #[.int .i64 (withE m es).kind, .int .i64 (withE m es).fr, .int .i64 (withE m es).dst, .int .i64 (withE m es).boot, .int .i64 (withE m es).view, .int .i64 (withE m es).last, .int .i64 (withE m es).mem, .int .i64 (withE m es).pos, .slice A1 (withE m es).es.length c1, .int .i64 (withE m es).com, .int .i64 (withE m es).num, .int .i64 (withE m es).clk, .bool (withE m es).yes]) #[.int .i64 (withE m es).kind, .int .i64 (withE m es).fr, .int .i64 (withE m es).dst, .int .i64 (withE m es).boot, .int .i64 (withE m es).view, .int .i64 (withE m es).last, .int .i64 (withE m es).mem, .int .i64 (withE m es).pos, .slice A1 (withE m es).es.length c1, .int .i64 (withE m es).com, .int .i64 (withE m es).num, .int .i64 (withE m es).clk, .bool (withE m es).yes] 24
  have r5 := (Rd.of_own O4.out).past b5
  have K5 := Lib.hid (K4.out.past b5)
  have BL5 := Lib.hid (BL4.out.trans (b5.mono BL4.out.size))
  have hlt := K4.out.lt
  rw [hsz] at x5 r5 hlt
  have X5 := Lib.hid (show Blk ((w3.setRow w.heap.size #[.int .i64 (withE m es).kind, .int .i64 (withE m es).fr, .int .i64 (withE m es).dst, .int .i64 (withE m es).boot, .int .i64 (withE m es).view, .int .i64 (withE m es).last, .int .i64 (withE m es).mem, .int .i64 (withE m es).pos, .slice A1 (withE m es).es.length c1, .int .i64 (withE m es).com, .int .i64 (withE m es).num, .int .i64 (withE m es).clk, .bool (withE m es).yes]).alloc (.cells #[.int .i64 (withE m es).kind, .int .i64 (withE m es).fr, .int .i64 (withE m es).dst, .int .i64 (withE m es).boot, .int .i64 (withE m es).view, .int .i64 (withE m es).last, .int .i64 (withE m es).mem, .int .i64 (withE m es).pos, .slice A1 (withE m es).es.length c1, .int .i64 (withE m es).com, .int .i64 (withE m es).num, .int .i64 (withE m es).clk, .bool (withE m es).yes] 24)) w3.heap.size 24 (mcs (withE m es) A1 c1) from x5)
  have HG := Lib.hid (show w.heap.size < w3.heap.size from hlt)
  have R5 := Lib.hid (show Rd ((w3.setRow w.heap.size #[.int .i64 (withE m es).kind, .int .i64 (withE m es).fr, .int .i64 (withE m es).dst, .int .i64 (withE m es).boot, .int .i64 (withE m es).view, .int .i64 (withE m es).last, .int .i64 (withE m es).mem, .int .i64 (withE m es).pos, .slice A1 (withE m es).es.length c1, .int .i64 (withE m es).com, .int .i64 (withE m es).num, .int .i64 (withE m es).clk, .bool (withE m es).yes]).alloc (.cells #[.int .i64 (withE m es).kind, .int .i64 (withE m es).fr, .int .i64 (withE m es).dst, .int .i64 (withE m es).boot, .int .i64 (withE m es).view, .int .i64 (withE m es).last, .int .i64 (withE m es).mem, .int .i64 (withE m es).pos, .slice A1 (withE m es).es.length c1, .int .i64 (withE m es).com, .int .i64 (withE m es).num, .int .i64 (withE m es).clk, .bool (withE m es).yes] 24)) w3.heap.size A1 c1 7 (withE m es).es.length (els (withE m es).es) from r5)
  have HMM := Lib.hid (show -9223372036854775808 ≤ (withE m es).mem ∧ (withE m es).mem ≤ 9223372036854775807 from OK.out.f6)
  have HEL := Lib.hid (show (withE m es).es.length ≤ 62 from HLE.out)
  clear b5 x5 r5 hlt hsz K3 K4 O3 O4 BL3 BL4 HLE
  generalize (w3.setRow w.heap.size #[.int .i64 (withE m es).kind, .int .i64 (withE m es).fr, .int .i64 (withE m es).dst, .int .i64 (withE m es).boot, .int .i64 (withE m es).view, .int .i64 (withE m es).last, .int .i64 (withE m es).mem, .int .i64 (withE m es).pos, .slice A1 (withE m es).es.length c1, .int .i64 (withE m es).com, .int .i64 (withE m es).num, .int .i64 (withE m es).clk, .bool (withE m es).yes]).alloc (.cells #[.int .i64 (withE m es).kind, .int .i64 (withE m es).fr, .int .i64 (withE m es).dst, .int .i64 (withE m es).boot, .int .i64 (withE m es).view, .int .i64 (withE m es).last, .int .i64 (withE m es).mem, .int .i64 (withE m es).pos, .slice A1 (withE m es).es.length c1, .int .i64 (withE m es).com, .int .i64 (withE m es).num, .int .i64 (withE m es).clk, .bool (withE m es).yes] 24) = w5 at *
  generalize hg6 : w3.heap.size = g6 at *
  have HG6 := Lib.hid hg6
  clear hg6
  generalize withE m es = m1 at *
  have c0 := X5.out.cell (i := 4) rfl
  have x0 := X5.out.cell (i := 4) rfl
  have x1 := X5.out.free 4
  go_upto_region 26 with fail
  clear c0 x0 x1
  have GG := grown_set w5 g6 4 (.int .i64 (wrap64 (m1.view + 1)))
  have HGL := HG.out
  have K6 := Lib.hid (K5.out.far GG (by omega))
  have X6 := Lib.hid (show Blk (w5.setCell ⟨g6, 4, none⟩ (.int .i64 (wrap64 (m1.view + 1)))) g6 24 (mcs { m1 with view := wrap64 (m1.view + 1) } A1 c1) from X5.out.set 4 (.int .i64 (wrap64 (m1.view + 1))))
  have R6 := Lib.hid (R5.out.setCell (p := ⟨g6, 4, none⟩) (Nat.le_refl _) (.int .i64 (wrap64 (m1.view + 1))))
  have BL6 := Lib.hid (BL5.out.trans (grown_below GG (by omega) BL5.out.size))
  have RM := Lib.hid R6.out.tight
  obtain ⟨y, HY⟩ : ∃ y, Hid (y = ({ m1 with view := wrap64 (m1.view + 1) } : Msg)) := ⟨_, Lib.hid rfl⟩
  have X6 := Lib.hid (show Blk (w5.setCell ⟨g6, 4, none⟩ (.int .i64 (wrap64 (m1.view + 1)))) g6 24 (mcs y A1 c1) by rw [HY.out]; exact X6.out)
  have RX := Lib.hid (show Rd (w5.setCell ⟨g6, 4, none⟩ (.int .i64 (wrap64 (m1.view + 1)))) (w5.setCell ⟨g6, 4, none⟩ (.int .i64 (wrap64 (m1.view + 1)))).heap.size A1 c1 7 y.es.length (els y.es) by rw [HY.out]; exact RM.out)
  have HXM := Lib.hid (show -9223372036854775808 ≤ y.mem ∧ y.mem ≤ 9223372036854775807 by rw [HY.out]; exact HMM.out)
  clear GG HGL K5 X5 R5 BL5 R6
  generalize w5.setCell ⟨g6, 4, none⟩ (.int .i64 (wrap64 (m1.view + 1))) = w6 at *
-- REGION curfew/curfewlaw16.WireTwins 26 wtw26_1 2
  refine Hb.begin ?_
  refine Hb.take (v := mv m1 A1 c1) 0 81 rfl ?_ (fun w' hw' => by exact run_loadM (K6.out.drew.past hw') rfl)
  refine Hb.take (v := mv y A1 c1) 2 83 rfl ?_ (fun w' hw' => by exact run_loadM (X6.out.drew.past hw') rfl)
  refine Hb.call (f := 15) (args := #[mv m1 A1 c1]) 1 82 rfl ?_ (run_callf Tryd.func15 (by kernel_rfl) (by kernel_rfl) (by simp only [List.map_toArray, List.map_cons, List.map_nil]; rfl))
  refine (wEncode_c w6.drew m1 A1 c1 RM.out.drew HMM.out ((HT.out.past BL6.out.drew))).mono ?_
  rintro x w7 ⟨A7, c7, rfl, hown, b7⟩
  have P7 := Lib.hid (Rd.of_own hown)
  have K7 := Lib.hid (K6.out.drew.past b7)
  have X7 := Lib.hid (X6.out.drew.past b7)
  have RM7 := Lib.hid ((RM.out.drew.past b7).tight)
  have RX7 := Lib.hid ((RX.out.drew.past b7).tight)
  have BL7 := Lib.hid (BL6.out.drew.trans (b7.mono BL6.out.size))
  refine Hb.back b7 b7.size ?_
  refine Hb.call (f := 15) (args := #[mv y A1 c1]) 3 84 rfl ?_ (run_callf Tryd.func15 (by kernel_rfl) (by kernel_rfl) (by simp only [List.map_toArray, List.map_cons, List.map_nil]; rfl))
  refine (wEncode_c w7 y A1 c1 RX7.out HXM.out (HT.out.past BL7.out)).mono ?_
  rintro x w8 ⟨A8, c8, rfl, hown2, b8⟩
  have P8 := Lib.hid (Rd.of_own hown2)
  have P7 := Lib.hid ((P7.out.past b8).tight)
  have K8 := Lib.hid (K7.out.past b8)
  have X8 := Lib.hid (X7.out.past b8)
  have RM8 := Lib.hid ((RM7.out.past b8).tight)
  have RX8 := Lib.hid ((RX7.out.past b8).tight)
  have BL8 := Lib.hid (BL7.out.trans (b8.mono BL7.out.size))
  refine Hb.back b8 b8.size ?_
  refine Hb.take (v := .slice A7 (PMsg.enc m1).length c7) 4 7 rfl ?_ (fun _ _ => rfl)
  refine Hb.take (v := .slice A8 (PMsg.enc y).length c8) 5 8 rfl ?_ (fun _ _ => rfl)
  refine Hb.done ?_
-- END
  go_upto_region 27 with fail
  have HB1 := Lib.hid (PMsg.enc_byte m1)
  have HB2 := Lib.hid (PMsg.enc_byte y)
  cases hm1 : PMsg.may m1
  · have L7 := Lib.hid (show (PMsg.enc m1).length = 0 by rw [PMsg.enc_no hm1]; rfl)
    clear hm1
-- REGION curfew/curfewlaw16.WireTwins 27 wtw27a 4
    refine Hb.begin ?_
    refine Hb.take (v := .slice A7 (PMsg.enc m1).length c7) 0 85 rfl ?_ (fun _ _ => rfl)
    refine Hb.take (v := .int .i64 ((PMsg.enc m1).length : Int)) 1 86 rfl ?_ (fun w' hw' => by go_simp; first | done | rfl | omega | exact wrap_in (by omega) (by omega) | exact Int.tmod_eq_emod_of_nonneg (by omega) | exact Int.tdiv_eq_ediv_of_nonneg (by omega) | (simp; omega))
    refine Hb.take (v := .bool true) 2 87 rfl ?_ (fun w' hw' => by have e := L7.out; go_simp; first | done | rfl | omega | (simp; omega))
    refine Hb.take (v := .bool true) 3 88 rfl ?_ (fun _ _ => rfl)
    refine Hb.pass 4 89 rfl ?_
    refine Hb.pass 5 90 rfl ?_
    refine Hb.pass 6 91 rfl ?_
    refine Hb.take (v := .bool true) 7 92 rfl ?_ (fun _ _ => rfl)
    refine Hb.take (v := .bool true) 8 93 rfl ?_ (fun _ _ => rfl)
    refine Hb.pass 9 94 rfl ?_
    refine Hb.pass 10 95 rfl ?_
    refine Hb.pass 11 96 rfl ?_
    refine Hb.pass 12 97 rfl ?_
    refine Hb.pass 13 98 rfl ?_
    refine Hb.pass 14 99 rfl ?_
    refine Hb.pass 15 100 rfl ?_
    refine Hb.pass 16 101 rfl ?_
    refine Hb.pass 17 102 rfl ?_
    refine Hb.take (v := Value.bool true) 18 103 rfl ?_ (fun _ _ => rfl)
    refine Hb.take (v := Value.bool true) 19 4 rfl ?_ (fun _ _ => rfl)
    refine Hb.done ?_
-- END
    go_wp2_with fail
    go_ret
    exact ⟨rfl, BL8.out.drew⟩
  cases hm2 : PMsg.may y
  · have L7 := Lib.hid (show (PMsg.enc m1).length ≠ 0 by have := PMsg.enc_pos hm1; omega)
    have L8 := Lib.hid (show (PMsg.enc y).length = 0 by rw [PMsg.enc_no hm2]; rfl)
    clear hm1 hm2
-- REGION curfew/curfewlaw16.WireTwins 27 wtw27b 4
    refine Hb.begin ?_
    refine Hb.take (v := .slice A7 (PMsg.enc m1).length c7) 0 85 rfl ?_ (fun _ _ => rfl)
    refine Hb.take (v := .int .i64 ((PMsg.enc m1).length : Int)) 1 86 rfl ?_ (fun w' hw' => by go_simp; first | done | rfl | omega | exact wrap_in (by omega) (by omega) | exact Int.tmod_eq_emod_of_nonneg (by omega) | exact Int.tdiv_eq_ediv_of_nonneg (by omega) | (simp; omega))
    refine Hb.take (v := .bool false) 2 87 rfl ?_ (fun w' hw' => by have e := L7.out; go_simp; first | done | rfl | omega | (simp; omega))
    refine Hb.take (v := .bool false) 3 88 rfl ?_ (fun _ _ => rfl)
    refine Hb.take (v := .slice A8 (PMsg.enc y).length c8) 4 89 rfl ?_ (fun _ _ => rfl)
    refine Hb.take (v := .int .i64 ((PMsg.enc y).length : Int)) 5 90 rfl ?_ (fun w' hw' => by go_simp; first | done | rfl | omega | exact wrap_in (by omega) (by omega) | exact Int.tmod_eq_emod_of_nonneg (by omega) | exact Int.tdiv_eq_ediv_of_nonneg (by omega) | (simp; omega))
    refine Hb.take (v := .bool true) 6 91 rfl ?_ (fun w' hw' => by have e := L8.out; go_simp; first | done | rfl | omega | (simp; omega))
    refine Hb.take (v := .bool true) 7 92 rfl ?_ (fun _ _ => rfl)
    refine Hb.take (v := .bool true) 8 93 rfl ?_ (fun _ _ => rfl)
    refine Hb.pass 9 94 rfl ?_
    refine Hb.pass 10 95 rfl ?_
    refine Hb.pass 11 96 rfl ?_
    refine Hb.pass 12 97 rfl ?_
    refine Hb.pass 13 98 rfl ?_
    refine Hb.pass 14 99 rfl ?_
    refine Hb.pass 15 100 rfl ?_
    refine Hb.pass 16 101 rfl ?_
    refine Hb.pass 17 102 rfl ?_
    refine Hb.take (v := Value.bool true) 18 103 rfl ?_ (fun _ _ => rfl)
    refine Hb.take (v := Value.bool true) 19 4 rfl ?_ (fun _ _ => rfl)
    refine Hb.done ?_
-- END
    go_wp2_with fail
    go_ret
    exact ⟨rfl, BL8.out.drew⟩
  have L7 := Lib.hid (show (PMsg.enc m1).length ≠ 0 by have := PMsg.enc_pos hm1; omega)
  have L8 := Lib.hid (show (PMsg.enc y).length ≠ 0 by have := PMsg.enc_pos hm2; omega)
  obtain ⟨qq, HQ⟩ : ∃ r, Hid (PMsg.eqM m1 y = r) := ⟨_, Lib.hid rfl⟩
  have HQ2 := Lib.hid ((enc_eq hm1 hm2).trans HQ.out)
  clear hm1 hm2
-- REGION curfew/curfewlaw16.WireTwins 27 wtw27c_1 2
  refine Hb.begin ?_
  refine Hb.take (v := .slice A7 (PMsg.enc m1).length c7) 0 85 rfl ?_ (fun _ _ => rfl)
  refine Hb.take (v := .int .i64 ((PMsg.enc m1).length : Int)) 1 86 rfl ?_ (fun w' hw' => by go_simp; first | done | rfl | omega | exact wrap_in (by omega) (by omega) | exact Int.tmod_eq_emod_of_nonneg (by omega) | exact Int.tdiv_eq_ediv_of_nonneg (by omega) | (simp; omega))
  refine Hb.take (v := .bool false) 2 87 rfl ?_ (fun w' hw' => by have e := L7.out; go_simp; first | done | rfl | omega | (simp; omega))
  refine Hb.take (v := .bool false) 3 88 rfl ?_ (fun _ _ => rfl)
  refine Hb.take (v := .slice A8 (PMsg.enc y).length c8) 4 89 rfl ?_ (fun _ _ => rfl)
  refine Hb.take (v := .int .i64 ((PMsg.enc y).length : Int)) 5 90 rfl ?_ (fun w' hw' => by go_simp; first | done | rfl | omega | exact wrap_in (by omega) (by omega) | exact Int.tmod_eq_emod_of_nonneg (by omega) | exact Int.tdiv_eq_ediv_of_nonneg (by omega) | (simp; omega))
  refine Hb.take (v := .bool false) 6 91 rfl ?_ (fun w' hw' => by have e := L8.out; go_simp; first | done | rfl | omega | (simp; omega))
  refine Hb.take (v := .bool false) 7 92 rfl ?_ (fun _ _ => rfl)
  refine Hb.take (v := .bool false) 8 93 rfl ?_ (fun _ _ => rfl)
  refine Hb.take (v := .slice A7 (PMsg.enc m1).length c7) 9 94 rfl ?_ (fun _ _ => rfl)
  refine Hb.take (v := .string (strOfNums (PMsg.enc m1))) 10 95 rfl ?_ (fun w' hw' => by exact run_toStrOp 5 rfl (P7.out.drew.below hw') Tryd.underlying29 Tryd.underlying5 Tryd.underlying9)
  refine Hb.take (v := .slice A8 (PMsg.enc y).length c8) 11 96 rfl ?_ (fun _ _ => rfl)
  refine Hb.take (v := .string (strOfNums (PMsg.enc y))) 12 97 rfl ?_ (fun w' hw' => by exact run_toStrOp 5 rfl (P8.out.drew.below hw') Tryd.underlying29 Tryd.underlying5 Tryd.underlying9)
  refine Hb.take (v := .bool qq) 13 98 rfl ?_ (fun w' hw' => by exact run_strEq rfl rfl ((strOfNums_beq HB1.out HB2.out).trans HQ2.out))
  refine Hb.take (v := mv m1 A1 c1) 14 99 rfl ?_ (fun w' hw' => by exact run_loadM (K8.out.drew.past hw') rfl)
  refine Hb.take (v := mv y A1 c1) 15 100 rfl ?_ (fun w' hw' => by exact run_loadM (X8.out.drew.past hw') rfl)
  refine Hb.call (f := 14) (args := #[mv m1 A1 c1, mv y A1 c1]) 16 101 rfl ?_ (run_callf Tryd.func14 (by kernel_rfl) (by kernel_rfl) (by simp only [List.map_toArray, List.map_cons, List.map_nil]; rfl))
  refine (rEqM_c w8.drew m1 y A1 A1 c1 c1 RM8.out.drew RX8.out.drew).mono ?_
  rw [HQ.out]
  rintro x w9 ⟨rfl, b9⟩
  have BL9 := Lib.hid (BL8.out.drew.trans (b9.mono BL8.out.size))
  refine Hb.back b9 b9.size ?_
  refine Hb.take (v := .bool true) 17 102 rfl ?_ (fun w' hw' => by go_simp; first | done | rfl | omega | exact wrap_in (by omega) (by omega) | exact Int.tmod_eq_emod_of_nonneg (by omega) | exact Int.tdiv_eq_ediv_of_nonneg (by omega) | (simp; omega))
  refine Hb.take (v := .bool true) 18 103 rfl ?_ (fun _ _ => rfl)
  refine Hb.take (v := .bool true) 19 4 rfl ?_ (fun _ _ => rfl)
  refine Hb.done ?_
-- END
  go_wp2_with fail
  go_ret
  exact ⟨rfl, BL9.out⟩

set_option maxHeartbeats 8000000 in
set_option maxRecDepth 100000 in
theorem WireTwins_2 (w : World) (ht : Tab w) (m : Msg) (A : Option Addr) (c : Nat) (ra : Rd w w.heap.size A c 7 m.es.length (els m.es)) (oa : MsgOk m) (which q : Int) (h1 : Int.tmod which 10 = q) (hq1 : -10 < q) (hq2 : q < 10) (h2 : Int.tmod (q + 10) 10 = 2) :
    Calls Tryd.prog 6 #[mv m A c, .int .i64 which] w fun e w' => e = .returned (.bool true) ∧ Below w.heap.size w w' := by
  have OK := Lib.hid oa
  have RA := Lib.hid ra
  have HT := Lib.hid ht
  clear oa ra ht
  have b1 := (Below.refl w.heap.size w).alloc (Nat.le_refl _) (.cells #[.int .i64 m.kind, .int .i64 m.fr, .int .i64 m.dst, .int .i64 m.boot, .int .i64 m.view, .int .i64 m.last, .int .i64 m.mem, .int .i64 m.pos, .slice A m.es.length c, .int .i64 m.com, .int .i64 m.num, .int .i64 m.clk, .bool m.yes] 24)
  have K0 := Blk.new w #[.int .i64 m.kind, .int .i64 m.fr, .int .i64 m.dst, .int .i64 m.boot, .int .i64 m.view, .int .i64 m.last, .int .i64 m.mem, .int .i64 m.pos, .slice A m.es.length c, .int .i64 m.com, .int .i64 m.num, .int .i64 m.clk, .bool m.yes] 24
  show Calls _ _ #[.agg #[.int .i64 m.kind, .int .i64 m.fr, .int .i64 m.dst, .int .i64 m.boot, .int .i64 m.view, .int .i64 m.last, .int .i64 m.mem, .int .i64 m.pos, .slice A m.es.length c, .int .i64 m.com, .int .i64 m.num, .int .i64 m.clk, .bool m.yes], .int .i64 which] _ _
  go_enter Tryd.func6, Tryd.ntmps6
  go_wp2_with fail
  generalize w.alloc (.cells #[.int .i64 m.kind, .int .i64 m.fr, .int .i64 m.dst, .int .i64 m.boot, .int .i64 m.view, .int .i64 m.last, .int .i64 m.mem, .int .i64 m.pos, .slice A m.es.length c, .int .i64 m.com, .int .i64 m.num, .int .i64 m.clk, .bool m.yes] 24) = w1 at *
  refine (begunM_c w1 (HT.out.past b1)).mono ?_
  rintro x w2 ⟨rfl, b2⟩
  have BL2 := Lib.hid (b1.trans (b2.mono b1.size))
  have K2 := Lib.hid (show Blk w2 w.heap.size 24 (mcs m A c) from K0.past b2)
  clear b1 b2 K0
  go_wp2_with ((with_reducible show wpList _ _ _ ((⟨some 12, Op.load _ _, _, _, _, _⟩ : Oper) :: _) _ _); go_must (refine wpList_load_row rfl 24 (.tmp 2) rfl w.heap.size rfl 24 #[.int .i64 m.kind, .int .i64 m.fr, .int .i64 m.dst, .int .i64 m.boot, .int .i64 m.view, .int .i64 m.last, .int .i64 m.mem, .int .i64 m.pos, .slice A m.es.length c, .int .i64 m.com, .int .i64 m.num, .int .i64 m.clk, .bool m.yes] (0, 0) _ K2.out Tryd.underlying24 rfl (by kernel_rfl) ?_))
  refine (lCutM_c w2 m A c ((RA.out.past BL2.out).tight) OK.out.ents).mono ?_
  rintro x w3 ⟨A1, c1, es, rfl, hle, hown, -, b3⟩
  have HLE := Lib.hid hle
  have BL3 := Lib.hid (BL2.out.trans (b3.mono BL2.out.size))
  have K3 := Lib.hid (K2.out.past b3)
  have O3 := Lib.hid (own_from hown BL2.out.size)
  clear b3 hown K2 BL2 hle
  have GG := grown_row w3 w.heap.size #[.int .i64 (withE m es).kind, .int .i64 (withE m es).fr, .int .i64 (withE m es).dst, .int .i64 (withE m es).boot, .int .i64 (withE m es).view, .int .i64 (withE m es).last, .int .i64 (withE m es).mem, .int .i64 (withE m es).pos, .slice A1 (withE m es).es.length c1, .int .i64 (withE m es).com, .int .i64 (withE m es).num, .int .i64 (withE m es).clk, .bool (withE m es).yes]
  have O4 := Lib.hid (own_apartB O3.out K3.out (by decide) GG)
  have BL4 := Lib.hid (BL3.out.trans (grown_below GG (Nat.le_refl _) BL3.out.size))
  have K4 := Lib.hid (show Blk (w3.setRow w.heap.size #[.int .i64 (withE m es).kind, .int .i64 (withE m es).fr, .int .i64 (withE m es).dst, .int .i64 (withE m es).boot, .int .i64 (withE m es).view, .int .i64 (withE m es).last, .int .i64 (withE m es).mem, .int .i64 (withE m es).pos, .slice A1 (withE m es).es.length c1, .int .i64 (withE m es).com, .int .i64 (withE m es).num, .int .i64 (withE m es).clk, .bool (withE m es).yes]) w.heap.size 24 (mcs (withE m es) A1 c1) from K3.out.row #[.int .i64 (withE m es).kind, .int .i64 (withE m es).fr, .int .i64 (withE m es).dst, .int .i64 (withE m es).boot, .int .i64 (withE m es).view, .int .i64 (withE m es).last, .int .i64 (withE m es).mem, .int .i64 (withE m es).pos, .slice A1 (withE m es).es.length c1, .int .i64 (withE m es).com, .int .i64 (withE m es).num, .int .i64 (withE m es).clk, .bool (withE m es).yes])
  clear GG
  go_upto_region 6 with (first | ((with_reducible show wpList _ _ _ ((⟨none, Op.store 24 (.tmp 2) _, _, _, _, _⟩ : Oper) :: _) _ _); go_must (refine wpList_store_row rfl 24 (.tmp 2) (.tmp 13) rfl w.heap.size _ rfl rfl _ _ K3.out (by kernel_rfl) (by rfl) (by kernel_rfl) ?_)) | ((with_reducible show wpList _ _ _ ((⟨some 14, Op.load _ _, _, _, _, _⟩ : Oper) :: _) _ _); go_must (refine wpList_load_row rfl 24 (.tmp 2) rfl w.heap.size rfl 24 #[.int .i64 (withE m es).kind, .int .i64 (withE m es).fr, .int .i64 (withE m es).dst, .int .i64 (withE m es).boot, .int .i64 (withE m es).view, .int .i64 (withE m es).last, .int .i64 (withE m es).mem, .int .i64 (withE m es).pos, .slice A1 (withE m es).es.length c1, .int .i64 (withE m es).com, .int .i64 (withE m es).num, .int .i64 (withE m es).clk, .bool (withE m es).yes] (0, 0) _ K4.out Tryd.underlying24 rfl (by kernel_rfl) ?_)))
  have hsz : (w3.setRow w.heap.size #[.int .i64 (withE m es).kind, .int .i64 (withE m es).fr, .int .i64 (withE m es).dst, .int .i64 (withE m es).boot, .int .i64 (withE m es).view, .int .i64 (withE m es).last, .int .i64 (withE m es).mem, .int .i64 (withE m es).pos, .slice A1 (withE m es).es.length c1, .int .i64 (withE m es).com, .int .i64 (withE m es).num, .int .i64 (withE m es).clk, .bool (withE m es).yes]).heap.size = w3.heap.size := by simp
  have b5 := (Below.refl (w3.setRow w.heap.size #[.int .i64 (withE m es).kind, .int .i64 (withE m es).fr, .int .i64 (withE m es).dst, .int .i64 (withE m es).boot, .int .i64 (withE m es).view, .int .i64 (withE m es).last, .int .i64 (withE m es).mem, .int .i64 (withE m es).pos, .slice A1 (withE m es).es.length c1, .int .i64 (withE m es).com, .int .i64 (withE m es).num, .int .i64 (withE m es).clk, .bool (withE m es).yes]).heap.size (w3.setRow w.heap.size #[.int .i64 (withE m es).kind, .int .i64 (withE m es).fr, .int .i64 (withE m es).dst, .int .i64 (withE m es).boot, .int .i64 (withE m es).view, .int .i64 (withE m es).last, .int .i64 (withE m es).mem, .int .i64 (withE m es).pos, .slice A1 (withE m es).es.length c1, .int .i64 (withE m es).com, .int .i64 (withE m es).num, .int .i64 (withE m es).clk, .bool (withE m es).yes])).alloc (Nat.le_refl _) (.cells #[.int .i64 (withE m es).kind, .int .i64 (withE m es).fr, .int .i64 (withE m es).dst, .int .i64 (withE m es).boot, .int .i64 (withE m es).view, .int .i64 (withE m es).last, .int .i64 (withE m es).mem, .int .i64 (withE m es).pos, .slice A1 (withE m es).es.length c1, .int .i64 (withE m es).com, .int .i64 (withE m es).num, .int .i64 (withE m es).clk, .bool (withE m es).yes] 24)
  have x5 := Blk.new (w3.setRow w.heap.size #[.int .i64 (withE m es).kind, .int .i64 (withE m es).fr, .int .i64 (withE m es).dst, .int .i64 (withE m es).boot, .int .i64 (withE m es).view, .int .i64 (withE m es).last, .int .i64 (withE m es).mem, .int .i64 (withE m es).pos, .slice A1 (withE m es).es.length c1, .int .i64 (withE m es).com, .int .i64 (withE m es).num, .int .i64 (withE m es).clk, .bool (withE m es).yes]) #[.int .i64 (withE m es).kind, .int .i64 (withE m es).fr, .int .i64 (withE m es).dst, .int .i64 (withE m es).boot, .int .i64 (withE m es).view, .int .i64 (withE m es).last, .int .i64 (withE m es).mem, .int .i64 (withE m es).pos, .slice A1 (withE m es).es.length c1, .int .i64 (withE m es).com, .int .i64 (withE m es).num, .int .i64 (withE m es).clk, .bool (withE m es).yes] 24
  have r5 := (Rd.of_own O4.out).past b5
  have K5 := Lib.hid (K4.out.past b5)
  have BL5 := Lib.hid (BL4.out.trans (b5.mono BL4.out.size))
  have hlt := K4.out.lt
  rw [hsz] at x5 r5 hlt
  have X5 := Lib.hid (show Blk ((w3.setRow w.heap.size #[.int .i64 (withE m es).kind, .int .i64 (withE m es).fr, .int .i64 (withE m es).dst, .int .i64 (withE m es).boot, .int .i64 (withE m es).view, .int .i64 (withE m es).last, .int .i64 (withE m es).mem, .int .i64 (withE m es).pos, .slice A1 (withE m es).es.length c1, .int .i64 (withE m es).com, .int .i64 (withE m es).num, .int .i64 (withE m es).clk, .bool (withE m es).yes]).alloc (.cells #[.int .i64 (withE m es).kind, .int .i64 (withE m es).fr, .int .i64 (withE m es).dst, .int .i64 (withE m es).boot, .int .i64 (withE m es).view, .int .i64 (withE m es).last, .int .i64 (withE m es).mem, .int .i64 (withE m es).pos, .slice A1 (withE m es).es.length c1, .int .i64 (withE m es).com, .int .i64 (withE m es).num, .int .i64 (withE m es).clk, .bool (withE m es).yes] 24)) w3.heap.size 24 (mcs (withE m es) A1 c1) from x5)
  have HG := Lib.hid (show w.heap.size < w3.heap.size from hlt)
  have R5 := Lib.hid (show Rd ((w3.setRow w.heap.size #[.int .i64 (withE m es).kind, .int .i64 (withE m es).fr, .int .i64 (withE m es).dst, .int .i64 (withE m es).boot, .int .i64 (withE m es).view, .int .i64 (withE m es).last, .int .i64 (withE m es).mem, .int .i64 (withE m es).pos, .slice A1 (withE m es).es.length c1, .int .i64 (withE m es).com, .int .i64 (withE m es).num, .int .i64 (withE m es).clk, .bool (withE m es).yes]).alloc (.cells #[.int .i64 (withE m es).kind, .int .i64 (withE m es).fr, .int .i64 (withE m es).dst, .int .i64 (withE m es).boot, .int .i64 (withE m es).view, .int .i64 (withE m es).last, .int .i64 (withE m es).mem, .int .i64 (withE m es).pos, .slice A1 (withE m es).es.length c1, .int .i64 (withE m es).com, .int .i64 (withE m es).num, .int .i64 (withE m es).clk, .bool (withE m es).yes] 24)) w3.heap.size A1 c1 7 (withE m es).es.length (els (withE m es).es) from r5)
  have HMM := Lib.hid (show -9223372036854775808 ≤ (withE m es).mem ∧ (withE m es).mem ≤ 9223372036854775807 from OK.out.f6)
  have HEL := Lib.hid (show (withE m es).es.length ≤ 62 from HLE.out)
  clear b5 x5 r5 hlt hsz K3 K4 O3 O4 BL3 BL4 HLE
  generalize (w3.setRow w.heap.size #[.int .i64 (withE m es).kind, .int .i64 (withE m es).fr, .int .i64 (withE m es).dst, .int .i64 (withE m es).boot, .int .i64 (withE m es).view, .int .i64 (withE m es).last, .int .i64 (withE m es).mem, .int .i64 (withE m es).pos, .slice A1 (withE m es).es.length c1, .int .i64 (withE m es).com, .int .i64 (withE m es).num, .int .i64 (withE m es).clk, .bool (withE m es).yes]).alloc (.cells #[.int .i64 (withE m es).kind, .int .i64 (withE m es).fr, .int .i64 (withE m es).dst, .int .i64 (withE m es).boot, .int .i64 (withE m es).view, .int .i64 (withE m es).last, .int .i64 (withE m es).mem, .int .i64 (withE m es).pos, .slice A1 (withE m es).es.length c1, .int .i64 (withE m es).com, .int .i64 (withE m es).num, .int .i64 (withE m es).clk, .bool (withE m es).yes] 24) = w5 at *
  generalize hg6 : w3.heap.size = g6 at *
  have HG6 := Lib.hid hg6
  clear hg6
  generalize withE m es = m1 at *
  have c0 := X5.out.cell (i := 5) rfl
  have x0 := X5.out.cell (i := 5) rfl
  have x1 := X5.out.free 5
  go_upto_region 26 with fail
  clear c0 x0 x1
  have GG := grown_set w5 g6 5 (.int .i64 (wrap64 (m1.last + 1)))
  have HGL := HG.out
  have K6 := Lib.hid (K5.out.far GG (by omega))
  have X6 := Lib.hid (show Blk (w5.setCell ⟨g6, 5, none⟩ (.int .i64 (wrap64 (m1.last + 1)))) g6 24 (mcs { m1 with last := wrap64 (m1.last + 1) } A1 c1) from X5.out.set 5 (.int .i64 (wrap64 (m1.last + 1))))
  have R6 := Lib.hid (R5.out.setCell (p := ⟨g6, 5, none⟩) (Nat.le_refl _) (.int .i64 (wrap64 (m1.last + 1))))
  have BL6 := Lib.hid (BL5.out.trans (grown_below GG (by omega) BL5.out.size))
  have RM := Lib.hid R6.out.tight
  obtain ⟨y, HY⟩ : ∃ y, Hid (y = ({ m1 with last := wrap64 (m1.last + 1) } : Msg)) := ⟨_, Lib.hid rfl⟩
  have X6 := Lib.hid (show Blk (w5.setCell ⟨g6, 5, none⟩ (.int .i64 (wrap64 (m1.last + 1)))) g6 24 (mcs y A1 c1) by rw [HY.out]; exact X6.out)
  have RX := Lib.hid (show Rd (w5.setCell ⟨g6, 5, none⟩ (.int .i64 (wrap64 (m1.last + 1)))) (w5.setCell ⟨g6, 5, none⟩ (.int .i64 (wrap64 (m1.last + 1)))).heap.size A1 c1 7 y.es.length (els y.es) by rw [HY.out]; exact RM.out)
  have HXM := Lib.hid (show -9223372036854775808 ≤ y.mem ∧ y.mem ≤ 9223372036854775807 by rw [HY.out]; exact HMM.out)
  clear GG HGL K5 X5 R5 BL5 R6
  generalize w5.setCell ⟨g6, 5, none⟩ (.int .i64 (wrap64 (m1.last + 1))) = w6 at *
-- REGION curfew/curfewlaw16.WireTwins 26 wtw26_1 2
  refine Hb.begin ?_
  refine Hb.take (v := mv m1 A1 c1) 0 81 rfl ?_ (fun w' hw' => by exact run_loadM (K6.out.drew.past hw') rfl)
  refine Hb.take (v := mv y A1 c1) 2 83 rfl ?_ (fun w' hw' => by exact run_loadM (X6.out.drew.past hw') rfl)
  refine Hb.call (f := 15) (args := #[mv m1 A1 c1]) 1 82 rfl ?_ (run_callf Tryd.func15 (by kernel_rfl) (by kernel_rfl) (by simp only [List.map_toArray, List.map_cons, List.map_nil]; rfl))
  refine (wEncode_c w6.drew m1 A1 c1 RM.out.drew HMM.out ((HT.out.past BL6.out.drew))).mono ?_
  rintro x w7 ⟨A7, c7, rfl, hown, b7⟩
  have P7 := Lib.hid (Rd.of_own hown)
  have K7 := Lib.hid (K6.out.drew.past b7)
  have X7 := Lib.hid (X6.out.drew.past b7)
  have RM7 := Lib.hid ((RM.out.drew.past b7).tight)
  have RX7 := Lib.hid ((RX.out.drew.past b7).tight)
  have BL7 := Lib.hid (BL6.out.drew.trans (b7.mono BL6.out.size))
  refine Hb.back b7 b7.size ?_
  refine Hb.call (f := 15) (args := #[mv y A1 c1]) 3 84 rfl ?_ (run_callf Tryd.func15 (by kernel_rfl) (by kernel_rfl) (by simp only [List.map_toArray, List.map_cons, List.map_nil]; rfl))
  refine (wEncode_c w7 y A1 c1 RX7.out HXM.out (HT.out.past BL7.out)).mono ?_
  rintro x w8 ⟨A8, c8, rfl, hown2, b8⟩
  have P8 := Lib.hid (Rd.of_own hown2)
  have P7 := Lib.hid ((P7.out.past b8).tight)
  have K8 := Lib.hid (K7.out.past b8)
  have X8 := Lib.hid (X7.out.past b8)
  have RM8 := Lib.hid ((RM7.out.past b8).tight)
  have RX8 := Lib.hid ((RX7.out.past b8).tight)
  have BL8 := Lib.hid (BL7.out.trans (b8.mono BL7.out.size))
  refine Hb.back b8 b8.size ?_
  refine Hb.take (v := .slice A7 (PMsg.enc m1).length c7) 4 7 rfl ?_ (fun _ _ => rfl)
  refine Hb.take (v := .slice A8 (PMsg.enc y).length c8) 5 8 rfl ?_ (fun _ _ => rfl)
  refine Hb.done ?_
-- END
  go_upto_region 27 with fail
  have HB1 := Lib.hid (PMsg.enc_byte m1)
  have HB2 := Lib.hid (PMsg.enc_byte y)
  cases hm1 : PMsg.may m1
  · have L7 := Lib.hid (show (PMsg.enc m1).length = 0 by rw [PMsg.enc_no hm1]; rfl)
    clear hm1
-- REGION curfew/curfewlaw16.WireTwins 27 wtw27a 4
    refine Hb.begin ?_
    refine Hb.take (v := .slice A7 (PMsg.enc m1).length c7) 0 85 rfl ?_ (fun _ _ => rfl)
    refine Hb.take (v := .int .i64 ((PMsg.enc m1).length : Int)) 1 86 rfl ?_ (fun w' hw' => by go_simp; first | done | rfl | omega | exact wrap_in (by omega) (by omega) | exact Int.tmod_eq_emod_of_nonneg (by omega) | exact Int.tdiv_eq_ediv_of_nonneg (by omega) | (simp; omega))
    refine Hb.take (v := .bool true) 2 87 rfl ?_ (fun w' hw' => by have e := L7.out; go_simp; first | done | rfl | omega | (simp; omega))
    refine Hb.take (v := .bool true) 3 88 rfl ?_ (fun _ _ => rfl)
    refine Hb.pass 4 89 rfl ?_
    refine Hb.pass 5 90 rfl ?_
    refine Hb.pass 6 91 rfl ?_
    refine Hb.take (v := .bool true) 7 92 rfl ?_ (fun _ _ => rfl)
    refine Hb.take (v := .bool true) 8 93 rfl ?_ (fun _ _ => rfl)
    refine Hb.pass 9 94 rfl ?_
    refine Hb.pass 10 95 rfl ?_
    refine Hb.pass 11 96 rfl ?_
    refine Hb.pass 12 97 rfl ?_
    refine Hb.pass 13 98 rfl ?_
    refine Hb.pass 14 99 rfl ?_
    refine Hb.pass 15 100 rfl ?_
    refine Hb.pass 16 101 rfl ?_
    refine Hb.pass 17 102 rfl ?_
    refine Hb.take (v := Value.bool true) 18 103 rfl ?_ (fun _ _ => rfl)
    refine Hb.take (v := Value.bool true) 19 4 rfl ?_ (fun _ _ => rfl)
    refine Hb.done ?_
-- END
    go_wp2_with fail
    go_ret
    exact ⟨rfl, BL8.out.drew⟩
  cases hm2 : PMsg.may y
  · have L7 := Lib.hid (show (PMsg.enc m1).length ≠ 0 by have := PMsg.enc_pos hm1; omega)
    have L8 := Lib.hid (show (PMsg.enc y).length = 0 by rw [PMsg.enc_no hm2]; rfl)
    clear hm1 hm2
-- REGION curfew/curfewlaw16.WireTwins 27 wtw27b 4
    refine Hb.begin ?_
    refine Hb.take (v := .slice A7 (PMsg.enc m1).length c7) 0 85 rfl ?_ (fun _ _ => rfl)
    refine Hb.take (v := .int .i64 ((PMsg.enc m1).length : Int)) 1 86 rfl ?_ (fun w' hw' => by go_simp; first | done | rfl | omega | exact wrap_in (by omega) (by omega) | exact Int.tmod_eq_emod_of_nonneg (by omega) | exact Int.tdiv_eq_ediv_of_nonneg (by omega) | (simp; omega))
    refine Hb.take (v := .bool false) 2 87 rfl ?_ (fun w' hw' => by have e := L7.out; go_simp; first | done | rfl | omega | (simp; omega))
    refine Hb.take (v := .bool false) 3 88 rfl ?_ (fun _ _ => rfl)
    refine Hb.take (v := .slice A8 (PMsg.enc y).length c8) 4 89 rfl ?_ (fun _ _ => rfl)
    refine Hb.take (v := .int .i64 ((PMsg.enc y).length : Int)) 5 90 rfl ?_ (fun w' hw' => by go_simp; first | done | rfl | omega | exact wrap_in (by omega) (by omega) | exact Int.tmod_eq_emod_of_nonneg (by omega) | exact Int.tdiv_eq_ediv_of_nonneg (by omega) | (simp; omega))
    refine Hb.take (v := .bool true) 6 91 rfl ?_ (fun w' hw' => by have e := L8.out; go_simp; first | done | rfl | omega | (simp; omega))
    refine Hb.take (v := .bool true) 7 92 rfl ?_ (fun _ _ => rfl)
    refine Hb.take (v := .bool true) 8 93 rfl ?_ (fun _ _ => rfl)
    refine Hb.pass 9 94 rfl ?_
    refine Hb.pass 10 95 rfl ?_
    refine Hb.pass 11 96 rfl ?_
    refine Hb.pass 12 97 rfl ?_
    refine Hb.pass 13 98 rfl ?_
    refine Hb.pass 14 99 rfl ?_
    refine Hb.pass 15 100 rfl ?_
    refine Hb.pass 16 101 rfl ?_
    refine Hb.pass 17 102 rfl ?_
    refine Hb.take (v := Value.bool true) 18 103 rfl ?_ (fun _ _ => rfl)
    refine Hb.take (v := Value.bool true) 19 4 rfl ?_ (fun _ _ => rfl)
    refine Hb.done ?_
-- END
    go_wp2_with fail
    go_ret
    exact ⟨rfl, BL8.out.drew⟩
  have L7 := Lib.hid (show (PMsg.enc m1).length ≠ 0 by have := PMsg.enc_pos hm1; omega)
  have L8 := Lib.hid (show (PMsg.enc y).length ≠ 0 by have := PMsg.enc_pos hm2; omega)
  obtain ⟨qq, HQ⟩ : ∃ r, Hid (PMsg.eqM m1 y = r) := ⟨_, Lib.hid rfl⟩
  have HQ2 := Lib.hid ((enc_eq hm1 hm2).trans HQ.out)
  clear hm1 hm2
-- REGION curfew/curfewlaw16.WireTwins 27 wtw27c_1 2
  refine Hb.begin ?_
  refine Hb.take (v := .slice A7 (PMsg.enc m1).length c7) 0 85 rfl ?_ (fun _ _ => rfl)
  refine Hb.take (v := .int .i64 ((PMsg.enc m1).length : Int)) 1 86 rfl ?_ (fun w' hw' => by go_simp; first | done | rfl | omega | exact wrap_in (by omega) (by omega) | exact Int.tmod_eq_emod_of_nonneg (by omega) | exact Int.tdiv_eq_ediv_of_nonneg (by omega) | (simp; omega))
  refine Hb.take (v := .bool false) 2 87 rfl ?_ (fun w' hw' => by have e := L7.out; go_simp; first | done | rfl | omega | (simp; omega))
  refine Hb.take (v := .bool false) 3 88 rfl ?_ (fun _ _ => rfl)
  refine Hb.take (v := .slice A8 (PMsg.enc y).length c8) 4 89 rfl ?_ (fun _ _ => rfl)
  refine Hb.take (v := .int .i64 ((PMsg.enc y).length : Int)) 5 90 rfl ?_ (fun w' hw' => by go_simp; first | done | rfl | omega | exact wrap_in (by omega) (by omega) | exact Int.tmod_eq_emod_of_nonneg (by omega) | exact Int.tdiv_eq_ediv_of_nonneg (by omega) | (simp; omega))
  refine Hb.take (v := .bool false) 6 91 rfl ?_ (fun w' hw' => by have e := L8.out; go_simp; first | done | rfl | omega | (simp; omega))
  refine Hb.take (v := .bool false) 7 92 rfl ?_ (fun _ _ => rfl)
  refine Hb.take (v := .bool false) 8 93 rfl ?_ (fun _ _ => rfl)
  refine Hb.take (v := .slice A7 (PMsg.enc m1).length c7) 9 94 rfl ?_ (fun _ _ => rfl)
  refine Hb.take (v := .string (strOfNums (PMsg.enc m1))) 10 95 rfl ?_ (fun w' hw' => by exact run_toStrOp 5 rfl (P7.out.drew.below hw') Tryd.underlying29 Tryd.underlying5 Tryd.underlying9)
  refine Hb.take (v := .slice A8 (PMsg.enc y).length c8) 11 96 rfl ?_ (fun _ _ => rfl)
  refine Hb.take (v := .string (strOfNums (PMsg.enc y))) 12 97 rfl ?_ (fun w' hw' => by exact run_toStrOp 5 rfl (P8.out.drew.below hw') Tryd.underlying29 Tryd.underlying5 Tryd.underlying9)
  refine Hb.take (v := .bool qq) 13 98 rfl ?_ (fun w' hw' => by exact run_strEq rfl rfl ((strOfNums_beq HB1.out HB2.out).trans HQ2.out))
  refine Hb.take (v := mv m1 A1 c1) 14 99 rfl ?_ (fun w' hw' => by exact run_loadM (K8.out.drew.past hw') rfl)
  refine Hb.take (v := mv y A1 c1) 15 100 rfl ?_ (fun w' hw' => by exact run_loadM (X8.out.drew.past hw') rfl)
  refine Hb.call (f := 14) (args := #[mv m1 A1 c1, mv y A1 c1]) 16 101 rfl ?_ (run_callf Tryd.func14 (by kernel_rfl) (by kernel_rfl) (by simp only [List.map_toArray, List.map_cons, List.map_nil]; rfl))
  refine (rEqM_c w8.drew m1 y A1 A1 c1 c1 RM8.out.drew RX8.out.drew).mono ?_
  rw [HQ.out]
  rintro x w9 ⟨rfl, b9⟩
  have BL9 := Lib.hid (BL8.out.drew.trans (b9.mono BL8.out.size))
  refine Hb.back b9 b9.size ?_
  refine Hb.take (v := .bool true) 17 102 rfl ?_ (fun w' hw' => by go_simp; first | done | rfl | omega | exact wrap_in (by omega) (by omega) | exact Int.tmod_eq_emod_of_nonneg (by omega) | exact Int.tdiv_eq_ediv_of_nonneg (by omega) | (simp; omega))
  refine Hb.take (v := .bool true) 18 103 rfl ?_ (fun _ _ => rfl)
  refine Hb.take (v := .bool true) 19 4 rfl ?_ (fun _ _ => rfl)
  refine Hb.done ?_
-- END
  go_wp2_with fail
  go_ret
  exact ⟨rfl, BL9.out⟩

set_option maxHeartbeats 8000000 in
set_option maxRecDepth 100000 in
theorem WireTwins_3 (w : World) (ht : Tab w) (m : Msg) (A : Option Addr) (c : Nat) (ra : Rd w w.heap.size A c 7 m.es.length (els m.es)) (oa : MsgOk m) (which q : Int) (h1 : Int.tmod which 10 = q) (hq1 : -10 < q) (hq2 : q < 10) (h2 : Int.tmod (q + 10) 10 = 3) :
    Calls Tryd.prog 6 #[mv m A c, .int .i64 which] w fun e w' => e = .returned (.bool true) ∧ Below w.heap.size w w' := by
  have OK := Lib.hid oa
  have RA := Lib.hid ra
  have HT := Lib.hid ht
  clear oa ra ht
  have b1 := (Below.refl w.heap.size w).alloc (Nat.le_refl _) (.cells #[.int .i64 m.kind, .int .i64 m.fr, .int .i64 m.dst, .int .i64 m.boot, .int .i64 m.view, .int .i64 m.last, .int .i64 m.mem, .int .i64 m.pos, .slice A m.es.length c, .int .i64 m.com, .int .i64 m.num, .int .i64 m.clk, .bool m.yes] 24)
  have K0 := Blk.new w #[.int .i64 m.kind, .int .i64 m.fr, .int .i64 m.dst, .int .i64 m.boot, .int .i64 m.view, .int .i64 m.last, .int .i64 m.mem, .int .i64 m.pos, .slice A m.es.length c, .int .i64 m.com, .int .i64 m.num, .int .i64 m.clk, .bool m.yes] 24
  show Calls _ _ #[.agg #[.int .i64 m.kind, .int .i64 m.fr, .int .i64 m.dst, .int .i64 m.boot, .int .i64 m.view, .int .i64 m.last, .int .i64 m.mem, .int .i64 m.pos, .slice A m.es.length c, .int .i64 m.com, .int .i64 m.num, .int .i64 m.clk, .bool m.yes], .int .i64 which] _ _
  go_enter Tryd.func6, Tryd.ntmps6
  go_wp2_with fail
  generalize w.alloc (.cells #[.int .i64 m.kind, .int .i64 m.fr, .int .i64 m.dst, .int .i64 m.boot, .int .i64 m.view, .int .i64 m.last, .int .i64 m.mem, .int .i64 m.pos, .slice A m.es.length c, .int .i64 m.com, .int .i64 m.num, .int .i64 m.clk, .bool m.yes] 24) = w1 at *
  refine (begunM_c w1 (HT.out.past b1)).mono ?_
  rintro x w2 ⟨rfl, b2⟩
  have BL2 := Lib.hid (b1.trans (b2.mono b1.size))
  have K2 := Lib.hid (show Blk w2 w.heap.size 24 (mcs m A c) from K0.past b2)
  clear b1 b2 K0
  go_wp2_with ((with_reducible show wpList _ _ _ ((⟨some 12, Op.load _ _, _, _, _, _⟩ : Oper) :: _) _ _); go_must (refine wpList_load_row rfl 24 (.tmp 2) rfl w.heap.size rfl 24 #[.int .i64 m.kind, .int .i64 m.fr, .int .i64 m.dst, .int .i64 m.boot, .int .i64 m.view, .int .i64 m.last, .int .i64 m.mem, .int .i64 m.pos, .slice A m.es.length c, .int .i64 m.com, .int .i64 m.num, .int .i64 m.clk, .bool m.yes] (0, 0) _ K2.out Tryd.underlying24 rfl (by kernel_rfl) ?_))
  refine (lCutM_c w2 m A c ((RA.out.past BL2.out).tight) OK.out.ents).mono ?_
  rintro x w3 ⟨A1, c1, es, rfl, hle, hown, -, b3⟩
  have HLE := Lib.hid hle
  have BL3 := Lib.hid (BL2.out.trans (b3.mono BL2.out.size))
  have K3 := Lib.hid (K2.out.past b3)
  have O3 := Lib.hid (own_from hown BL2.out.size)
  clear b3 hown K2 BL2 hle
  have GG := grown_row w3 w.heap.size #[.int .i64 (withE m es).kind, .int .i64 (withE m es).fr, .int .i64 (withE m es).dst, .int .i64 (withE m es).boot, .int .i64 (withE m es).view, .int .i64 (withE m es).last, .int .i64 (withE m es).mem, .int .i64 (withE m es).pos, .slice A1 (withE m es).es.length c1, .int .i64 (withE m es).com, .int .i64 (withE m es).num, .int .i64 (withE m es).clk, .bool (withE m es).yes]
  have O4 := Lib.hid (own_apartB O3.out K3.out (by decide) GG)
  have BL4 := Lib.hid (BL3.out.trans (grown_below GG (Nat.le_refl _) BL3.out.size))
  have K4 := Lib.hid (show Blk (w3.setRow w.heap.size #[.int .i64 (withE m es).kind, .int .i64 (withE m es).fr, .int .i64 (withE m es).dst, .int .i64 (withE m es).boot, .int .i64 (withE m es).view, .int .i64 (withE m es).last, .int .i64 (withE m es).mem, .int .i64 (withE m es).pos, .slice A1 (withE m es).es.length c1, .int .i64 (withE m es).com, .int .i64 (withE m es).num, .int .i64 (withE m es).clk, .bool (withE m es).yes]) w.heap.size 24 (mcs (withE m es) A1 c1) from K3.out.row #[.int .i64 (withE m es).kind, .int .i64 (withE m es).fr, .int .i64 (withE m es).dst, .int .i64 (withE m es).boot, .int .i64 (withE m es).view, .int .i64 (withE m es).last, .int .i64 (withE m es).mem, .int .i64 (withE m es).pos, .slice A1 (withE m es).es.length c1, .int .i64 (withE m es).com, .int .i64 (withE m es).num, .int .i64 (withE m es).clk, .bool (withE m es).yes])
  clear GG
  go_upto_region 6 with (first | ((with_reducible show wpList _ _ _ ((⟨none, Op.store 24 (.tmp 2) _, _, _, _, _⟩ : Oper) :: _) _ _); go_must (refine wpList_store_row rfl 24 (.tmp 2) (.tmp 13) rfl w.heap.size _ rfl rfl _ _ K3.out (by kernel_rfl) (by rfl) (by kernel_rfl) ?_)) | ((with_reducible show wpList _ _ _ ((⟨some 14, Op.load _ _, _, _, _, _⟩ : Oper) :: _) _ _); go_must (refine wpList_load_row rfl 24 (.tmp 2) rfl w.heap.size rfl 24 #[.int .i64 (withE m es).kind, .int .i64 (withE m es).fr, .int .i64 (withE m es).dst, .int .i64 (withE m es).boot, .int .i64 (withE m es).view, .int .i64 (withE m es).last, .int .i64 (withE m es).mem, .int .i64 (withE m es).pos, .slice A1 (withE m es).es.length c1, .int .i64 (withE m es).com, .int .i64 (withE m es).num, .int .i64 (withE m es).clk, .bool (withE m es).yes] (0, 0) _ K4.out Tryd.underlying24 rfl (by kernel_rfl) ?_)))
  have hsz : (w3.setRow w.heap.size #[.int .i64 (withE m es).kind, .int .i64 (withE m es).fr, .int .i64 (withE m es).dst, .int .i64 (withE m es).boot, .int .i64 (withE m es).view, .int .i64 (withE m es).last, .int .i64 (withE m es).mem, .int .i64 (withE m es).pos, .slice A1 (withE m es).es.length c1, .int .i64 (withE m es).com, .int .i64 (withE m es).num, .int .i64 (withE m es).clk, .bool (withE m es).yes]).heap.size = w3.heap.size := by simp
  have b5 := (Below.refl (w3.setRow w.heap.size #[.int .i64 (withE m es).kind, .int .i64 (withE m es).fr, .int .i64 (withE m es).dst, .int .i64 (withE m es).boot, .int .i64 (withE m es).view, .int .i64 (withE m es).last, .int .i64 (withE m es).mem, .int .i64 (withE m es).pos, .slice A1 (withE m es).es.length c1, .int .i64 (withE m es).com, .int .i64 (withE m es).num, .int .i64 (withE m es).clk, .bool (withE m es).yes]).heap.size (w3.setRow w.heap.size #[.int .i64 (withE m es).kind, .int .i64 (withE m es).fr, .int .i64 (withE m es).dst, .int .i64 (withE m es).boot, .int .i64 (withE m es).view, .int .i64 (withE m es).last, .int .i64 (withE m es).mem, .int .i64 (withE m es).pos, .slice A1 (withE m es).es.length c1, .int .i64 (withE m es).com, .int .i64 (withE m es).num, .int .i64 (withE m es).clk, .bool (withE m es).yes])).alloc (Nat.le_refl _) (.cells #[.int .i64 (withE m es).kind, .int .i64 (withE m es).fr, .int .i64 (withE m es).dst, .int .i64 (withE m es).boot, .int .i64 (withE m es).view, .int .i64 (withE m es).last, .int .i64 (withE m es).mem, .int .i64 (withE m es).pos, .slice A1 (withE m es).es.length c1, .int .i64 (withE m es).com, .int .i64 (withE m es).num, .int .i64 (withE m es).clk, .bool (withE m es).yes] 24)
  have x5 := Blk.new (w3.setRow w.heap.size #[.int .i64 (withE m es).kind, .int .i64 (withE m es).fr, .int .i64 (withE m es).dst, .int .i64 (withE m es).boot, .int .i64 (withE m es).view, .int .i64 (withE m es).last, .int .i64 (withE m es).mem, .int .i64 (withE m es).pos, .slice A1 (withE m es).es.length c1, .int .i64 (withE m es).com, .int .i64 (withE m es).num, .int .i64 (withE m es).clk, .bool (withE m es).yes]) #[.int .i64 (withE m es).kind, .int .i64 (withE m es).fr, .int .i64 (withE m es).dst, .int .i64 (withE m es).boot, .int .i64 (withE m es).view, .int .i64 (withE m es).last, .int .i64 (withE m es).mem, .int .i64 (withE m es).pos, .slice A1 (withE m es).es.length c1, .int .i64 (withE m es).com, .int .i64 (withE m es).num, .int .i64 (withE m es).clk, .bool (withE m es).yes] 24
  have r5 := (Rd.of_own O4.out).past b5
  have K5 := Lib.hid (K4.out.past b5)
  have BL5 := Lib.hid (BL4.out.trans (b5.mono BL4.out.size))
  have hlt := K4.out.lt
  rw [hsz] at x5 r5 hlt
  have X5 := Lib.hid (show Blk ((w3.setRow w.heap.size #[.int .i64 (withE m es).kind, .int .i64 (withE m es).fr, .int .i64 (withE m es).dst, .int .i64 (withE m es).boot, .int .i64 (withE m es).view, .int .i64 (withE m es).last, .int .i64 (withE m es).mem, .int .i64 (withE m es).pos, .slice A1 (withE m es).es.length c1, .int .i64 (withE m es).com, .int .i64 (withE m es).num, .int .i64 (withE m es).clk, .bool (withE m es).yes]).alloc (.cells #[.int .i64 (withE m es).kind, .int .i64 (withE m es).fr, .int .i64 (withE m es).dst, .int .i64 (withE m es).boot, .int .i64 (withE m es).view, .int .i64 (withE m es).last, .int .i64 (withE m es).mem, .int .i64 (withE m es).pos, .slice A1 (withE m es).es.length c1, .int .i64 (withE m es).com, .int .i64 (withE m es).num, .int .i64 (withE m es).clk, .bool (withE m es).yes] 24)) w3.heap.size 24 (mcs (withE m es) A1 c1) from x5)
  have HG := Lib.hid (show w.heap.size < w3.heap.size from hlt)
  have R5 := Lib.hid (show Rd ((w3.setRow w.heap.size #[.int .i64 (withE m es).kind, .int .i64 (withE m es).fr, .int .i64 (withE m es).dst, .int .i64 (withE m es).boot, .int .i64 (withE m es).view, .int .i64 (withE m es).last, .int .i64 (withE m es).mem, .int .i64 (withE m es).pos, .slice A1 (withE m es).es.length c1, .int .i64 (withE m es).com, .int .i64 (withE m es).num, .int .i64 (withE m es).clk, .bool (withE m es).yes]).alloc (.cells #[.int .i64 (withE m es).kind, .int .i64 (withE m es).fr, .int .i64 (withE m es).dst, .int .i64 (withE m es).boot, .int .i64 (withE m es).view, .int .i64 (withE m es).last, .int .i64 (withE m es).mem, .int .i64 (withE m es).pos, .slice A1 (withE m es).es.length c1, .int .i64 (withE m es).com, .int .i64 (withE m es).num, .int .i64 (withE m es).clk, .bool (withE m es).yes] 24)) w3.heap.size A1 c1 7 (withE m es).es.length (els (withE m es).es) from r5)
  have HMM := Lib.hid (show -9223372036854775808 ≤ (withE m es).mem ∧ (withE m es).mem ≤ 9223372036854775807 from OK.out.f6)
  have HEL := Lib.hid (show (withE m es).es.length ≤ 62 from HLE.out)
  clear b5 x5 r5 hlt hsz K3 K4 O3 O4 BL3 BL4 HLE
  generalize (w3.setRow w.heap.size #[.int .i64 (withE m es).kind, .int .i64 (withE m es).fr, .int .i64 (withE m es).dst, .int .i64 (withE m es).boot, .int .i64 (withE m es).view, .int .i64 (withE m es).last, .int .i64 (withE m es).mem, .int .i64 (withE m es).pos, .slice A1 (withE m es).es.length c1, .int .i64 (withE m es).com, .int .i64 (withE m es).num, .int .i64 (withE m es).clk, .bool (withE m es).yes]).alloc (.cells #[.int .i64 (withE m es).kind, .int .i64 (withE m es).fr, .int .i64 (withE m es).dst, .int .i64 (withE m es).boot, .int .i64 (withE m es).view, .int .i64 (withE m es).last, .int .i64 (withE m es).mem, .int .i64 (withE m es).pos, .slice A1 (withE m es).es.length c1, .int .i64 (withE m es).com, .int .i64 (withE m es).num, .int .i64 (withE m es).clk, .bool (withE m es).yes] 24) = w5 at *
  generalize hg6 : w3.heap.size = g6 at *
  have HG6 := Lib.hid hg6
  clear hg6
  generalize withE m es = m1 at *
  have c0 := X5.out.cell (i := 9) rfl
  have x0 := X5.out.cell (i := 9) rfl
  have x1 := X5.out.free 9
  go_upto_region 26 with fail
  clear c0 x0 x1
  have GG := grown_set w5 g6 9 (.int .i64 (wrap64 (m1.com + 1)))
  have HGL := HG.out
  have K6 := Lib.hid (K5.out.far GG (by omega))
  have X6 := Lib.hid (show Blk (w5.setCell ⟨g6, 9, none⟩ (.int .i64 (wrap64 (m1.com + 1)))) g6 24 (mcs { m1 with com := wrap64 (m1.com + 1) } A1 c1) from X5.out.set 9 (.int .i64 (wrap64 (m1.com + 1))))
  have R6 := Lib.hid (R5.out.setCell (p := ⟨g6, 9, none⟩) (Nat.le_refl _) (.int .i64 (wrap64 (m1.com + 1))))
  have BL6 := Lib.hid (BL5.out.trans (grown_below GG (by omega) BL5.out.size))
  have RM := Lib.hid R6.out.tight
  obtain ⟨y, HY⟩ : ∃ y, Hid (y = ({ m1 with com := wrap64 (m1.com + 1) } : Msg)) := ⟨_, Lib.hid rfl⟩
  have X6 := Lib.hid (show Blk (w5.setCell ⟨g6, 9, none⟩ (.int .i64 (wrap64 (m1.com + 1)))) g6 24 (mcs y A1 c1) by rw [HY.out]; exact X6.out)
  have RX := Lib.hid (show Rd (w5.setCell ⟨g6, 9, none⟩ (.int .i64 (wrap64 (m1.com + 1)))) (w5.setCell ⟨g6, 9, none⟩ (.int .i64 (wrap64 (m1.com + 1)))).heap.size A1 c1 7 y.es.length (els y.es) by rw [HY.out]; exact RM.out)
  have HXM := Lib.hid (show -9223372036854775808 ≤ y.mem ∧ y.mem ≤ 9223372036854775807 by rw [HY.out]; exact HMM.out)
  clear GG HGL K5 X5 R5 BL5 R6
  generalize w5.setCell ⟨g6, 9, none⟩ (.int .i64 (wrap64 (m1.com + 1))) = w6 at *
-- REGION curfew/curfewlaw16.WireTwins 26 wtw26_1 2
  refine Hb.begin ?_
  refine Hb.take (v := mv m1 A1 c1) 0 81 rfl ?_ (fun w' hw' => by exact run_loadM (K6.out.drew.past hw') rfl)
  refine Hb.take (v := mv y A1 c1) 2 83 rfl ?_ (fun w' hw' => by exact run_loadM (X6.out.drew.past hw') rfl)
  refine Hb.call (f := 15) (args := #[mv m1 A1 c1]) 1 82 rfl ?_ (run_callf Tryd.func15 (by kernel_rfl) (by kernel_rfl) (by simp only [List.map_toArray, List.map_cons, List.map_nil]; rfl))
  refine (wEncode_c w6.drew m1 A1 c1 RM.out.drew HMM.out ((HT.out.past BL6.out.drew))).mono ?_
  rintro x w7 ⟨A7, c7, rfl, hown, b7⟩
  have P7 := Lib.hid (Rd.of_own hown)
  have K7 := Lib.hid (K6.out.drew.past b7)
  have X7 := Lib.hid (X6.out.drew.past b7)
  have RM7 := Lib.hid ((RM.out.drew.past b7).tight)
  have RX7 := Lib.hid ((RX.out.drew.past b7).tight)
  have BL7 := Lib.hid (BL6.out.drew.trans (b7.mono BL6.out.size))
  refine Hb.back b7 b7.size ?_
  refine Hb.call (f := 15) (args := #[mv y A1 c1]) 3 84 rfl ?_ (run_callf Tryd.func15 (by kernel_rfl) (by kernel_rfl) (by simp only [List.map_toArray, List.map_cons, List.map_nil]; rfl))
  refine (wEncode_c w7 y A1 c1 RX7.out HXM.out (HT.out.past BL7.out)).mono ?_
  rintro x w8 ⟨A8, c8, rfl, hown2, b8⟩
  have P8 := Lib.hid (Rd.of_own hown2)
  have P7 := Lib.hid ((P7.out.past b8).tight)
  have K8 := Lib.hid (K7.out.past b8)
  have X8 := Lib.hid (X7.out.past b8)
  have RM8 := Lib.hid ((RM7.out.past b8).tight)
  have RX8 := Lib.hid ((RX7.out.past b8).tight)
  have BL8 := Lib.hid (BL7.out.trans (b8.mono BL7.out.size))
  refine Hb.back b8 b8.size ?_
  refine Hb.take (v := .slice A7 (PMsg.enc m1).length c7) 4 7 rfl ?_ (fun _ _ => rfl)
  refine Hb.take (v := .slice A8 (PMsg.enc y).length c8) 5 8 rfl ?_ (fun _ _ => rfl)
  refine Hb.done ?_
-- END
  go_upto_region 27 with fail
  have HB1 := Lib.hid (PMsg.enc_byte m1)
  have HB2 := Lib.hid (PMsg.enc_byte y)
  cases hm1 : PMsg.may m1
  · have L7 := Lib.hid (show (PMsg.enc m1).length = 0 by rw [PMsg.enc_no hm1]; rfl)
    clear hm1
-- REGION curfew/curfewlaw16.WireTwins 27 wtw27a 4
    refine Hb.begin ?_
    refine Hb.take (v := .slice A7 (PMsg.enc m1).length c7) 0 85 rfl ?_ (fun _ _ => rfl)
    refine Hb.take (v := .int .i64 ((PMsg.enc m1).length : Int)) 1 86 rfl ?_ (fun w' hw' => by go_simp; first | done | rfl | omega | exact wrap_in (by omega) (by omega) | exact Int.tmod_eq_emod_of_nonneg (by omega) | exact Int.tdiv_eq_ediv_of_nonneg (by omega) | (simp; omega))
    refine Hb.take (v := .bool true) 2 87 rfl ?_ (fun w' hw' => by have e := L7.out; go_simp; first | done | rfl | omega | (simp; omega))
    refine Hb.take (v := .bool true) 3 88 rfl ?_ (fun _ _ => rfl)
    refine Hb.pass 4 89 rfl ?_
    refine Hb.pass 5 90 rfl ?_
    refine Hb.pass 6 91 rfl ?_
    refine Hb.take (v := .bool true) 7 92 rfl ?_ (fun _ _ => rfl)
    refine Hb.take (v := .bool true) 8 93 rfl ?_ (fun _ _ => rfl)
    refine Hb.pass 9 94 rfl ?_
    refine Hb.pass 10 95 rfl ?_
    refine Hb.pass 11 96 rfl ?_
    refine Hb.pass 12 97 rfl ?_
    refine Hb.pass 13 98 rfl ?_
    refine Hb.pass 14 99 rfl ?_
    refine Hb.pass 15 100 rfl ?_
    refine Hb.pass 16 101 rfl ?_
    refine Hb.pass 17 102 rfl ?_
    refine Hb.take (v := Value.bool true) 18 103 rfl ?_ (fun _ _ => rfl)
    refine Hb.take (v := Value.bool true) 19 4 rfl ?_ (fun _ _ => rfl)
    refine Hb.done ?_
-- END
    go_wp2_with fail
    go_ret
    exact ⟨rfl, BL8.out.drew⟩
  cases hm2 : PMsg.may y
  · have L7 := Lib.hid (show (PMsg.enc m1).length ≠ 0 by have := PMsg.enc_pos hm1; omega)
    have L8 := Lib.hid (show (PMsg.enc y).length = 0 by rw [PMsg.enc_no hm2]; rfl)
    clear hm1 hm2
-- REGION curfew/curfewlaw16.WireTwins 27 wtw27b 4
    refine Hb.begin ?_
    refine Hb.take (v := .slice A7 (PMsg.enc m1).length c7) 0 85 rfl ?_ (fun _ _ => rfl)
    refine Hb.take (v := .int .i64 ((PMsg.enc m1).length : Int)) 1 86 rfl ?_ (fun w' hw' => by go_simp; first | done | rfl | omega | exact wrap_in (by omega) (by omega) | exact Int.tmod_eq_emod_of_nonneg (by omega) | exact Int.tdiv_eq_ediv_of_nonneg (by omega) | (simp; omega))
    refine Hb.take (v := .bool false) 2 87 rfl ?_ (fun w' hw' => by have e := L7.out; go_simp; first | done | rfl | omega | (simp; omega))
    refine Hb.take (v := .bool false) 3 88 rfl ?_ (fun _ _ => rfl)
    refine Hb.take (v := .slice A8 (PMsg.enc y).length c8) 4 89 rfl ?_ (fun _ _ => rfl)
    refine Hb.take (v := .int .i64 ((PMsg.enc y).length : Int)) 5 90 rfl ?_ (fun w' hw' => by go_simp; first | done | rfl | omega | exact wrap_in (by omega) (by omega) | exact Int.tmod_eq_emod_of_nonneg (by omega) | exact Int.tdiv_eq_ediv_of_nonneg (by omega) | (simp; omega))
    refine Hb.take (v := .bool true) 6 91 rfl ?_ (fun w' hw' => by have e := L8.out; go_simp; first | done | rfl | omega | (simp; omega))
    refine Hb.take (v := .bool true) 7 92 rfl ?_ (fun _ _ => rfl)
    refine Hb.take (v := .bool true) 8 93 rfl ?_ (fun _ _ => rfl)
    refine Hb.pass 9 94 rfl ?_
    refine Hb.pass 10 95 rfl ?_
    refine Hb.pass 11 96 rfl ?_
    refine Hb.pass 12 97 rfl ?_
    refine Hb.pass 13 98 rfl ?_
    refine Hb.pass 14 99 rfl ?_
    refine Hb.pass 15 100 rfl ?_
    refine Hb.pass 16 101 rfl ?_
    refine Hb.pass 17 102 rfl ?_
    refine Hb.take (v := Value.bool true) 18 103 rfl ?_ (fun _ _ => rfl)
    refine Hb.take (v := Value.bool true) 19 4 rfl ?_ (fun _ _ => rfl)
    refine Hb.done ?_
-- END
    go_wp2_with fail
    go_ret
    exact ⟨rfl, BL8.out.drew⟩
  have L7 := Lib.hid (show (PMsg.enc m1).length ≠ 0 by have := PMsg.enc_pos hm1; omega)
  have L8 := Lib.hid (show (PMsg.enc y).length ≠ 0 by have := PMsg.enc_pos hm2; omega)
  obtain ⟨qq, HQ⟩ : ∃ r, Hid (PMsg.eqM m1 y = r) := ⟨_, Lib.hid rfl⟩
  have HQ2 := Lib.hid ((enc_eq hm1 hm2).trans HQ.out)
  clear hm1 hm2
-- REGION curfew/curfewlaw16.WireTwins 27 wtw27c_1 2
  refine Hb.begin ?_
  refine Hb.take (v := .slice A7 (PMsg.enc m1).length c7) 0 85 rfl ?_ (fun _ _ => rfl)
  refine Hb.take (v := .int .i64 ((PMsg.enc m1).length : Int)) 1 86 rfl ?_ (fun w' hw' => by go_simp; first | done | rfl | omega | exact wrap_in (by omega) (by omega) | exact Int.tmod_eq_emod_of_nonneg (by omega) | exact Int.tdiv_eq_ediv_of_nonneg (by omega) | (simp; omega))
  refine Hb.take (v := .bool false) 2 87 rfl ?_ (fun w' hw' => by have e := L7.out; go_simp; first | done | rfl | omega | (simp; omega))
  refine Hb.take (v := .bool false) 3 88 rfl ?_ (fun _ _ => rfl)
  refine Hb.take (v := .slice A8 (PMsg.enc y).length c8) 4 89 rfl ?_ (fun _ _ => rfl)
  refine Hb.take (v := .int .i64 ((PMsg.enc y).length : Int)) 5 90 rfl ?_ (fun w' hw' => by go_simp; first | done | rfl | omega | exact wrap_in (by omega) (by omega) | exact Int.tmod_eq_emod_of_nonneg (by omega) | exact Int.tdiv_eq_ediv_of_nonneg (by omega) | (simp; omega))
  refine Hb.take (v := .bool false) 6 91 rfl ?_ (fun w' hw' => by have e := L8.out; go_simp; first | done | rfl | omega | (simp; omega))
  refine Hb.take (v := .bool false) 7 92 rfl ?_ (fun _ _ => rfl)
  refine Hb.take (v := .bool false) 8 93 rfl ?_ (fun _ _ => rfl)
  refine Hb.take (v := .slice A7 (PMsg.enc m1).length c7) 9 94 rfl ?_ (fun _ _ => rfl)
  refine Hb.take (v := .string (strOfNums (PMsg.enc m1))) 10 95 rfl ?_ (fun w' hw' => by exact run_toStrOp 5 rfl (P7.out.drew.below hw') Tryd.underlying29 Tryd.underlying5 Tryd.underlying9)
  refine Hb.take (v := .slice A8 (PMsg.enc y).length c8) 11 96 rfl ?_ (fun _ _ => rfl)
  refine Hb.take (v := .string (strOfNums (PMsg.enc y))) 12 97 rfl ?_ (fun w' hw' => by exact run_toStrOp 5 rfl (P8.out.drew.below hw') Tryd.underlying29 Tryd.underlying5 Tryd.underlying9)
  refine Hb.take (v := .bool qq) 13 98 rfl ?_ (fun w' hw' => by exact run_strEq rfl rfl ((strOfNums_beq HB1.out HB2.out).trans HQ2.out))
  refine Hb.take (v := mv m1 A1 c1) 14 99 rfl ?_ (fun w' hw' => by exact run_loadM (K8.out.drew.past hw') rfl)
  refine Hb.take (v := mv y A1 c1) 15 100 rfl ?_ (fun w' hw' => by exact run_loadM (X8.out.drew.past hw') rfl)
  refine Hb.call (f := 14) (args := #[mv m1 A1 c1, mv y A1 c1]) 16 101 rfl ?_ (run_callf Tryd.func14 (by kernel_rfl) (by kernel_rfl) (by simp only [List.map_toArray, List.map_cons, List.map_nil]; rfl))
  refine (rEqM_c w8.drew m1 y A1 A1 c1 c1 RM8.out.drew RX8.out.drew).mono ?_
  rw [HQ.out]
  rintro x w9 ⟨rfl, b9⟩
  have BL9 := Lib.hid (BL8.out.drew.trans (b9.mono BL8.out.size))
  refine Hb.back b9 b9.size ?_
  refine Hb.take (v := .bool true) 17 102 rfl ?_ (fun w' hw' => by go_simp; first | done | rfl | omega | exact wrap_in (by omega) (by omega) | exact Int.tmod_eq_emod_of_nonneg (by omega) | exact Int.tdiv_eq_ediv_of_nonneg (by omega) | (simp; omega))
  refine Hb.take (v := .bool true) 18 103 rfl ?_ (fun _ _ => rfl)
  refine Hb.take (v := .bool true) 19 4 rfl ?_ (fun _ _ => rfl)
  refine Hb.done ?_
-- END
  go_wp2_with fail
  go_ret
  exact ⟨rfl, BL9.out⟩
end Go.Proofs.YtgcpofiecbpfbaaDoor

