/- Legs of WireTwins. -/
import Derived.Test.YtgcpofiecbpfbaaDoorSeg9
import Derived.Test.YtgcpofiecbpfbaaDoorSeg11
import Derived.Deep.CutRange
import Derived.Test.YtgcpofiecbpfbaaDoorSeg12
import Derived.Test.YtgcpofiecbpfbaaDoorSeg1
namespace Go.Proofs.YtgcpofiecbpfbaaDoor
open Go.RowKit

set_option maxHeartbeats 8000000 in
set_option maxRecDepth 100000 in
theorem WireTwins_9 (w : World) (ht : Tab w) (m : Msg) (A : Option Addr) (c : Nat) (ra : Rd w w.heap.size A c 7 m.es.length (els m.es)) (oa : MsgOk m) (which q : Int) (h1 : Int.tmod which 10 = q) (hq1 : -10 < q) (hq2 : q < 10) (h2 : Int.tmod (q + 10) 10 = 9) :
    Calls Tryd.prog 6 #[mv m A c, .int .i64 which] w fun e w' => e = .returned (.bool true) ∧ Below w.heap.size w w' := by
  have OK := Lib.hid oa
  have RA := Lib.hid ra
  have HT := Lib.hid ht
  clear oa ra ht
  have b1 := (Below.refl w.heap.size w).alloc (Nat.le_refl _) (.cells #[.int .i64 m.kind, .int .i64 m.fr, .int .i64 m.dst, .int .i64 m.boot, .int .i64 m.view, .int .i64 m.last, .int .i64 m.mem, .int .i64 m.pos, .slice A m.es.length c, .int .i64 m.com, .int .i64 m.num, .int .i64 m.clk, .bool m.yes] 24)
  have K0 := Blk.new w #[.int .i64 m.kind, .int .i64 m.fr, .int .i64 m.dst, .int .i64 m.boot, .int .i64 m.view, .int .i64 m.last, .int .i64 m.mem, .int .i64 m.pos, .slice A m.es.length c, .int .i64 m.com, .int .i64 m.num, .int .i64 m.clk, .bool m.yes] 24
  show Calls _ _ #[.agg #[.int .i64 m.kind, .int .i64 m.fr, .int .i64 m.dst, .int .i64 m.boot, .int .i64 m.view, .int .i64 m.last, .int .i64 m.mem, .int .i64 m.pos, .slice A m.es.length c, .int .i64 m.com, .int .i64 m.num, .int .i64 m.clk, .bool m.yes], .int .i64 which] _ _
  go_enter Tryd.func6, Tryd.ntmps6
  go_wp2_with fail
  generalize w.alloc (.cells #[.int .i64 m.kind, .int .i64 m.fr, .int .i64 m.dst, .int .i64 m.boot, .int .i64 m.view, .int .i64 m.last, .int .i64 m.mem, .int .i64 m.pos, .slice A m.es.length c, .int .i64 m.com, .int .i64 m.num, .int .i64 m.clk, .bool m.yes] 24) = w1 at *
  refine (begunM_c w1 (HT.out.past b1)).mono ?_
  rintro x w2 ⟨rfl, b2⟩
  have BL2 := Lib.hid (b1.trans (b2.mono b1.size))
  have K2 := Lib.hid (show Blk w2 w.heap.size 24 (mcs m A c) from K0.past b2)
  clear b1 b2 K0
  go_wp2_with ((with_reducible show wpList _ _ _ ((⟨some 12, Op.load _ _, _, _, _, _⟩ : Oper) :: _) _ _); go_must (refine wpList_load_row rfl 24 (.tmp 2) rfl w.heap.size rfl 24 #[.int .i64 m.kind, .int .i64 m.fr, .int .i64 m.dst, .int .i64 m.boot, .int .i64 m.view, .int .i64 m.last, .int .i64 m.mem, .int .i64 m.pos, .slice A m.es.length c, .int .i64 m.com, .int .i64 m.num, .int .i64 m.clk, .bool m.yes] (0, 0) _ K2.out Tryd.underlying24 rfl (by kernel_rfl) ?_))
  refine (lCutM_c w2 m A c ((RA.out.past BL2.out).tight) OK.out.ents).mono ?_
  rintro x w3 ⟨A1, c1, es, rfl, hle, hown, -, b3⟩
  have HLE := Lib.hid hle
  have BL3 := Lib.hid (BL2.out.trans (b3.mono BL2.out.size))
  have K3 := Lib.hid (K2.out.past b3)
  have O3 := Lib.hid (own_from hown BL2.out.size)
  clear b3 hown K2 BL2 hle
  have GG := grown_row w3 w.heap.size #[.int .i64 (withE m es).kind, .int .i64 (withE m es).fr, .int .i64 (withE m es).dst, .int .i64 (withE m es).boot, .int .i64 (withE m es).view, .int .i64 (withE m es).last, .int .i64 (withE m es).mem, .int .i64 (withE m es).pos, .slice A1 (withE m es).es.length c1, .int .i64 (withE m es).com, .int .i64 (withE m es).num, .int .i64 (withE m es).clk, .bool (withE m es).yes]
  have O4 := Lib.hid (own_apartB O3.out K3.out (by decide) GG)
  have BL4 := Lib.hid (BL3.out.trans (grown_below GG (Nat.le_refl _) BL3.out.size))
  have K4 := Lib.hid (show Blk (w3.setRow w.heap.size #[.int .i64 (withE m es).kind, .int .i64 (withE m es).fr, .int .i64 (withE m es).dst, .int .i64 (withE m es).boot, .int .i64 (withE m es).view, .int .i64 (withE m es).last, .int .i64 (withE m es).mem, .int .i64 (withE m es).pos, .slice A1 (withE m es).es.length c1, .int .i64 (withE m es).com, .int .i64 (withE m es).num, .int .i64 (withE m es).clk, .bool (withE m es).yes]) w.heap.size 24 (mcs (withE m es) A1 c1) from K3.out.row #[.int .i64 (withE m es).kind, .int .i64 (withE m es).fr, .int .i64 (withE m es).dst, .int .i64 (withE m es).boot, .int .i64 (withE m es).view, .int .i64 (withE m es).last, .int .i64 (withE m es).mem, .int .i64 (withE m es).pos, .slice A1 (withE m es).es.length c1, .int .i64 (withE m es).com, .int .i64 (withE m es).num, .int .i64 (withE m es).clk, .bool (withE m es).yes])
  clear GG
  go_upto_region 6 with (first | ((with_reducible show wpList _ _ _ ((⟨none, Op.store 24 (.tmp 2) _, _, _, _, _⟩ : Oper) :: _) _ _); go_must (refine wpList_store_row rfl 24 (.tmp 2) (.tmp 13) rfl w.heap.size _ rfl rfl _ _ K3.out (by kernel_rfl) (by rfl) (by kernel_rfl) ?_)) | ((with_reducible show wpList _ _ _ ((⟨some 14, Op.load _ _, _, _, _, _⟩ : Oper) :: _) _ _); go_must (refine wpList_load_row rfl 24 (.tmp 2) rfl w.heap.size rfl 24 #[.int .i64 (withE m es).kind, .int .i64 (withE m es).fr, .int .i64 (withE m es).dst, .int .i64 (withE m es).boot, .int .i64 (withE m es).view, .int .i64 (withE m es).last, .int .i64 (withE m es).mem, .int .i64 (withE m es).pos, .slice A1 (withE m es).es.length c1, .int .i64 (withE m es).com, .int .i64 (withE m es).num, .int .i64 (withE m es).clk, .bool (withE m es).yes] (0, 0) _ K4.out Tryd.underlying24 rfl (by kernel_rfl) ?_)))
  have hsz : (w3.setRow w.heap.size #[.int .i64 (withE m es).kind, .int .i64 (withE m es).fr, .int .i64 (withE m es).dst, .int .i64 (withE m es).boot, .int .i64 (withE m es).view, .int .i64 (withE m es).last, .int .i64 (withE m es).mem, .int .i64 (withE m es).pos, .slice A1 (withE m es).es.length c1, .int .i64 (withE m es).com, .int .i64 (withE m es).num, .int .i64 (withE m es).clk, .bool (withE m es).yes]).heap.size = w3.heap.size := by simp
  have b5 := (Below.refl (w3.setRow w.heap.size #[.int .i64 (withE m es).kind, .int .i64 (withE m es).fr, .int .i64 (withE m es).dst, .int .i64 (withE m es).boot, .int .i64 (withE m es).view, .int .i64 (withE m es).last, .int .i64 (withE m es).mem, .int .i64 (withE m es).pos, .slice A1 (withE m es).es.length c1, .int .i64 (withE m es).com, .int .i64 (withE m es).num, .int .i64 (withE m es).clk, .bool (withE m es).yes]).heap.size (w3.setRow w.heap.size #[.int .i64 (withE m es).kind, .int .i64 (withE m es).fr, .int .i64 (withE m es).dst, .int .i64 (withE m es).boot, .int .i64 (withE m es).view, .int .i64 (withE m es).last, .int .i64 (withE m es).mem, .int .i64 (withE m es).pos, .slice A1 (withE m es).es.length c1, .int .i64 (withE m es).com, .int .i64 (withE m es).num, .int .i64 (withE m es).clk, .bool (withE m es).yes])).alloc (Nat.le_refl _) (.cells #[.int .i64 (withE m es).kind, .int .i64 (withE m es).fr, .int .i64 (withE m es).dst, .int .i64 (withE m es).boot, .int .i64 (withE m es).view, .int .i64 (withE m es).last, .int .i64 (withE m es).mem, .int .i64 (withE m es).pos, .slice A1 (withE m es).es.length c1, .int .i64 (withE m es).com, .int .i64 (withE m es).num, .int .i64 (withE m es).clk, .bool (withE m es).yes] 24)
  have x5 := Blk.new (w3.setRow w.heap.size #[.int .i64 (withE m es).kind, .int .i64 (withE m es).fr, .int .i64 (withE m es).dst, .int .i64 (withE m es).boot, .int .i64 (withE m es).view, .int .i64 (withE m es).last, .int .i64 (withE m es).mem, .int .i64 (withE m es).pos, .slice A1 (withE m es).es.length c1, .int .i64 (withE m es).com, .int .i64 (withE m es).num, .int .i64 (withE m es).clk, .bool (withE m es).yes]) #[.int .i64 (withE m es).kind, .int .i64 (withE m es).fr, .int .i64 (withE m es).dst, .int .i64 (withE m es).boot, .int .i64 (withE m es).view, .int .i64 (withE m es).last, .int .i64 (withE m es).mem, .int .i64 (withE m es).pos, .slice A1 (withE m es).es.length c1, .int .i64 (withE m es).com, .int .i64 (withE m es).num, .int .i64 (withE m es).clk, .bool (withE m es).yes] 24
  have r5 := (Rd.of_own O4.out).past b5
  have K5 := Lib.hid (K4.out.past b5)
  have BL5 := Lib.hid (BL4.out.trans (b5.mono BL4.out.size))
  have hlt := K4.out.lt
  rw [hsz] at x5 r5 hlt
  have X5 := Lib.hid (show Blk ((w3.setRow w.heap.size #[.int .i64 (withE m es).kind, .int .i64 (withE m es).fr, .int .i64 (withE m es).dst, .int .i64 (withE m es).boot, .int .i64 (withE m es).view, .int .i64 (withE m es).last, .int .i64 (withE m es).mem, .int .i64 (withE m es).pos, .slice A1 (withE m es).es.length c1, .int .i64 (withE m es).com, .int .i64 (withE m es).num, .int .i64 (withE m es).clk, .bool (withE m es).yes]).alloc (.cells #[.int .i64 (withE m es).kind, .int .i64 (withE m es).fr, .int .i64 (withE m es).dst, .int .i64 (withE m es).boot, .int .i64 (withE m es).view, .int .i64 (withE m es).last, .int .i64 (withE m es).mem, .int .i64 (withE m es).pos, .slice A1 (withE m es).es.length c1, .int .i64 (withE m es).com, .int .i64 (withE m es).num, .int .i64 (withE m es).clk, .bool (withE m es).yes] 24)) w3.heap.size 24 (mcs (withE m es) A1 c1) from x5)
  have HG := Lib.hid (show w.heap.size < w3.heap.size from hlt)
  have R5 := Lib.hid (show Rd ((w3.setRow w.heap.size #[.int .i64 (withE m es).kind, .int .i64 (withE m es).fr, .int .i64 (withE m es).dst, .int .i64 (withE m es).boot, .int .i64 (withE m es).view, .int .i64 (withE m es).last, .int .i64 (withE m es).mem, .int .i64 (withE m es).pos, .slice A1 (withE m es).es.length c1, .int .i64 (withE m es).com, .int .i64 (withE m es).num, .int .i64 (withE m es).clk, .bool (withE m es).yes]).alloc (.cells #[.int .i64 (withE m es).kind, .int .i64 (withE m es).fr, .int .i64 (withE m es).dst, .int .i64 (withE m es).boot, .int .i64 (withE m es).view, .int .i64 (withE m es).last, .int .i64 (withE m es).mem, .int .i64 (withE m es).pos, .slice A1 (withE m es).es.length c1, .int .i64 (withE m es).com, .int .i64 (withE m es).num, .int .i64 (withE m es).clk, .bool (withE m es).yes] 24)) w3.heap.size A1 c1 7 (withE m es).es.length (els (withE m es).es) from r5)
  have HMM := Lib.hid (show -9223372036854775808 ≤ (withE m es).mem ∧ (withE m es).mem ≤ 9223372036854775807 from OK.out.f6)
  have HEL := Lib.hid (show (withE m es).es.length ≤ 62 from HLE.out)
  clear b5 x5 r5 hlt hsz K3 K4 O3 O4 BL3 BL4 HLE
  generalize (w3.setRow w.heap.size #[.int .i64 (withE m es).kind, .int .i64 (withE m es).fr, .int .i64 (withE m es).dst, .int .i64 (withE m es).boot, .int .i64 (withE m es).view, .int .i64 (withE m es).last, .int .i64 (withE m es).mem, .int .i64 (withE m es).pos, .slice A1 (withE m es).es.length c1, .int .i64 (withE m es).com, .int .i64 (withE m es).num, .int .i64 (withE m es).clk, .bool (withE m es).yes]).alloc (.cells #[.int .i64 (withE m es).kind, .int .i64 (withE m es).fr, .int .i64 (withE m es).dst, .int .i64 (withE m es).boot, .int .i64 (withE m es).view, .int .i64 (withE m es).last, .int .i64 (withE m es).mem, .int .i64 (withE m es).pos, .slice A1 (withE m es).es.length c1, .int .i64 (withE m es).com, .int .i64 (withE m es).num, .int .i64 (withE m es).clk, .bool (withE m es).yes] 24) = w5 at *
  generalize hg6 : w3.heap.size = g6 at *
  have HG6 := Lib.hid hg6
  clear hg6
  generalize withE m es = m1 at *
  have c0 := K5.out.cell (i := 8) rfl
  have HLE := HEL.out
  go_upto_region 26 with (first
    | ((with_reducible show wpList _ _ _ ((⟨some 21, Op.call _, _, _, _, _⟩ : Oper) :: _) _ _); at_builtin; go_must (refine wpList_app rfl (.const (.slice none 0 0)) (.tmp 20) _ rfl w5.heap.size 38 _ 7 64 Tryd.underlying22 ent_info rfl (by omega) _ 0 [] rfl (World.ownsRow_nil _ _ _ _) g6 A1 c1 m1.es.length (els m1.es) rfl R5.out (els_one _) (by unfold maxLen; omega) (by omega) (Nat.le_refl _) ?_)))
  intro A6 c6 w6 hown6 hgrow6 hbel6
  have O6 := Lib.hid (show w6.ownsRow w5.heap.size 38 7 (.slice A6 m1.es.length c6) m1.es.length (els m1.es) by simpa using hown6)
  have K6 := Lib.hid (K5.out.past hbel6)
  have X6 := Lib.hid (X5.out.past hbel6)
  have R6 := Lib.hid (R5.out.past hbel6)
  have BL6 := Lib.hid (BL5.out.trans (hbel6.mono BL5.out.size))
  have hS6 := hbel6.size
  have BN6 := Lib.hid hbel6
  clear hown6 hgrow6 hbel6 c0 BL5
  go_upto_region 26 with (at_builtin; go_must (refine wpList_pushes rfl (.tmp 21) (.tmp 23) _ rfl w5.heap.size 38 (ev zeroE) 7 64 1 Tryd.underlying22 ent_info rfl (by omega) rfl (by unfold maxLen; omega) A6 c6 m1.es.length (els m1.es) rfl O6.out rfl ?h1 ?h2 ?h3 ?h4 ?_))
  case h1 => exact ⟨rfl, rfl, rfl, rfl⟩
  case h2 => unfold maxLen; omega
  case h3 => omega
  case h4 => exact hS6
  intro A9 c9 w7 hown7 hg7 hb7
  have K7 := Lib.hid (K6.out.grown_own O6.out hg7 (by decide))
  have X7 := Lib.hid (X6.out.grown_own O6.out hg7 (by decide))
  have hs5 := K5.out.lt
  have hx5 := X5.out.lt
  have R7 := Lib.hid (R5.out.below ((BN6.out.trans hb7).mono (show g6 ≤ w5.heap.size by omega)))
  have BL7 := Lib.hid (BL6.out.trans (hb7.mono (by omega)))
  have O7 := Lib.hid (show w7.ownsRow w5.heap.size 38 7 (.slice A9 (m1.es.length + 1) c9) (m1.es.length + 1) (els (m1.es ++ [(⟨7, 1099511627776, 1099511627776, 0, 0, 0, ⟨#[]⟩⟩ : Ent)])) by rw [els_append]; exact hown7)
  clear hown7 hg7 hb7
  have x0 := X7.out.cell (i := 8) rfl
  have x1 := X7.out.free 8
  go_upto_region 26 with fail
  clear x0 x1
  have GG := grown_set w7 g6 8 (.slice A9 (m1.es.length + 1) c9)
  have HGL := HG.out
  obtain ⟨y, HY⟩ : ∃ y, Hid (y = ({ m1 with es := m1.es ++ [(⟨7, 1099511627776, 1099511627776, 0, 0, 0, ⟨#[]⟩⟩ : Ent)] } : Msg)) := ⟨_, Lib.hid rfl⟩
  have K8 := Lib.hid (K7.out.far GG (by omega))
  have HYL := Lib.hid (show y.es.length = m1.es.length + 1 by rw [HY.out]; simp)
  have X8 := Lib.hid (show Blk (w7.setCell ⟨g6, 8, none⟩ (.slice A9 (m1.es.length + 1) c9)) g6 24 (mcs y A9 c9) by
    have := X7.out.set 8 (.slice A9 (m1.es.length + 1) c9)
    rw [← HYL.out] at this ⊢
    rw [HY.out] at this ⊢
    exact this)
  have O8 := own_apartB O7.out X7.out (by decide) GG
  have RX := Lib.hid (show Rd (w7.setCell ⟨g6, 8, none⟩ (.slice A9 (m1.es.length + 1) c9)) (w7.setCell ⟨g6, 8, none⟩ (.slice A9 (m1.es.length + 1) c9)).heap.size A9 c9 7 y.es.length (els y.es) by
    rw [HYL.out, HY.out]
    exact Rd.of_own O8)
  have RM := Lib.hid (Rd.tight (R7.out.setCell (p := ⟨g6, 8, none⟩) (Nat.le_refl _) (.slice A9 (m1.es.length + 1) c9)))
  have HXM := Lib.hid (show -9223372036854775808 ≤ y.mem ∧ y.mem ≤ 9223372036854775807 by rw [HY.out]; exact HMM.out)
  have BL8 := Lib.hid (BL7.out.trans (grown_below GG (by omega) BL7.out.size))
  clear GG HGL K5 X5 R5 K6 X6 R6 BL6 K7 X7 R7 BL7 O6 O7 O8 hS6 hs5 hx5 BN6 HLE
  have K6 := K8
  have X6 := X8
  have BL6 := BL8
  clear K8 X8 BL8
  generalize w7.setCell ⟨g6, 8, none⟩ (.slice A9 (m1.es.length + 1) c9) = w6 at *
-- REGION curfew/curfewlaw16.WireTwins 26 wtw26_9 2
  refine Hb.begin ?_
  refine Hb.take (v := mv m1 A1 c1) 0 81 rfl ?_ (fun w' hw' => by exact run_loadM (K6.out.drew.past hw') rfl)
  refine Hb.take (v := mv y A9 c9) 2 83 rfl ?_ (fun w' hw' => by exact run_loadM (X6.out.drew.past hw') rfl)
  refine Hb.call (f := 15) (args := #[mv m1 A1 c1]) 1 82 rfl ?_ (run_callf Tryd.func15 (by kernel_rfl) (by kernel_rfl) (by simp only [List.map_toArray, List.map_cons, List.map_nil]; rfl))
  refine (wEncode_c w6.drew m1 A1 c1 RM.out.drew HMM.out ((HT.out.past BL6.out.drew))).mono ?_
  rintro x w7 ⟨A7, c7, rfl, hown, b7⟩
  have P7 := Lib.hid (Rd.of_own hown)
  have K7 := Lib.hid (K6.out.drew.past b7)
  have X7 := Lib.hid (X6.out.drew.past b7)
  have RM7 := Lib.hid ((RM.out.drew.past b7).tight)
  have RX7 := Lib.hid ((RX.out.drew.past b7).tight)
  have BL7 := Lib.hid (BL6.out.drew.trans (b7.mono BL6.out.size))
  refine Hb.back b7 b7.size ?_
  refine Hb.call (f := 15) (args := #[mv y A9 c9]) 3 84 rfl ?_ (run_callf Tryd.func15 (by kernel_rfl) (by kernel_rfl) (by simp only [List.map_toArray, List.map_cons, List.map_nil]; rfl))
  refine (wEncode_c w7 y A9 c9 RX7.out HXM.out (HT.out.past BL7.out)).mono ?_
  rintro x w8 ⟨A8, c8, rfl, hown2, b8⟩
  have P8 := Lib.hid (Rd.of_own hown2)
  have P7 := Lib.hid ((P7.out.past b8).tight)
  have K8 := Lib.hid (K7.out.past b8)
  have X8 := Lib.hid (X7.out.past b8)
  have RM8 := Lib.hid ((RM7.out.past b8).tight)
  have RX8 := Lib.hid ((RX7.out.past b8).tight)
  have BL8 := Lib.hid (BL7.out.trans (b8.mono BL7.out.size))
  refine Hb.back b8 b8.size ?_
  refine Hb.take (v := .slice A7 (PMsg.enc m1).length c7) 4 7 rfl ?_ (fun _ _ => rfl)
  refine Hb.take (v := .slice A8 (PMsg.enc y).length c8) 5 8 rfl ?_ (fun _ _ => rfl)
  refine Hb.done ?_
-- END
  go_upto_region 27 with fail
  have HB1 := Lib.hid (PMsg.enc_byte m1)
  have HB2 := Lib.hid (PMsg.enc_byte y)
  cases hm1 : PMsg.may m1
  · have L7 := Lib.hid (show (PMsg.enc m1).length = 0 by rw [PMsg.enc_no hm1]; rfl)
    clear hm1
-- REGION curfew/curfewlaw16.WireTwins 27 wtw27a 4
    refine Hb.begin ?_
    refine Hb.take (v := .slice A7 (PMsg.enc m1).length c7) 0 85 rfl ?_ (fun _ _ => rfl)
    refine Hb.take (v := .int .i64 ((PMsg.enc m1).length : Int)) 1 86 rfl ?_ (fun w' hw' => by go_simp; first | done | rfl | omega | exact wrap_in (by omega) (by omega) | exact Int.tmod_eq_emod_of_nonneg (by omega) | exact Int.tdiv_eq_ediv_of_nonneg (by omega) | (simp; omega))
    refine Hb.take (v := .bool true) 2 87 rfl ?_ (fun w' hw' => by have e := L7.out; go_simp; first | done | rfl | omega | (simp; omega))
    refine Hb.take (v := .bool true) 3 88 rfl ?_ (fun _ _ => rfl)
    refine Hb.pass 4 89 rfl ?_
    refine Hb.pass 5 90 rfl ?_
    refine Hb.pass 6 91 rfl ?_
    refine Hb.take (v := .bool true) 7 92 rfl ?_ (fun _ _ => rfl)
    refine Hb.take (v := .bool true) 8 93 rfl ?_ (fun _ _ => rfl)
    refine Hb.pass 9 94 rfl ?_
    refine Hb.pass 10 95 rfl ?_
    refine Hb.pass 11 96 rfl ?_
    refine Hb.pass 12 97 rfl ?_
    refine Hb.pass 13 98 rfl ?_
    refine Hb.pass 14 99 rfl ?_
    refine Hb.pass 15 100 rfl ?_
    refine Hb.pass 16 101 rfl ?_
    refine Hb.pass 17 102 rfl ?_
    refine Hb.take (v := Value.bool true) 18 103 rfl ?_ (fun _ _ => rfl)
    refine Hb.take (v := Value.bool true) 19 4 rfl ?_ (fun _ _ => rfl)
    refine Hb.done ?_
-- END
    go_wp2_with fail
    go_ret
    exact ⟨rfl, BL8.out.drew⟩
  cases hm2 : PMsg.may y
  · have L7 := Lib.hid (show (PMsg.enc m1).length ≠ 0 by have := PMsg.enc_pos hm1; omega)
    have L8 := Lib.hid (show (PMsg.enc y).length = 0 by rw [PMsg.enc_no hm2]; rfl)
    clear hm1 hm2
-- REGION curfew/curfewlaw16.WireTwins 27 wtw27b 4
    refine Hb.begin ?_
    refine Hb.take (v := .slice A7 (PMsg.enc m1).length c7) 0 85 rfl ?_ (fun _ _ => rfl)
    refine Hb.take (v := .int .i64 ((PMsg.enc m1).length : Int)) 1 86 rfl ?_ (fun w' hw' => by go_simp; first | done | rfl | omega | exact wrap_in (by omega) (by omega) | exact Int.tmod_eq_emod_of_nonneg (by omega) | exact Int.tdiv_eq_ediv_of_nonneg (by omega) | (simp; omega))
    refine Hb.take (v := .bool false) 2 87 rfl ?_ (fun w' hw' => by have e := L7.out; go_simp; first | done | rfl | omega | (simp; omega))
    refine Hb.take (v := .bool false) 3 88 rfl ?_ (fun _ _ => rfl)
    refine Hb.take (v := .slice A8 (PMsg.enc y).length c8) 4 89 rfl ?_ (fun _ _ => rfl)
    refine Hb.take (v := .int .i64 ((PMsg.enc y).length : Int)) 5 90 rfl ?_ (fun w' hw' => by go_simp; first | done | rfl | omega | exact wrap_in (by omega) (by omega) | exact Int.tmod_eq_emod_of_nonneg (by omega) | exact Int.tdiv_eq_ediv_of_nonneg (by omega) | (simp; omega))
    refine Hb.take (v := .bool true) 6 91 rfl ?_ (fun w' hw' => by have e := L8.out; go_simp; first | done | rfl | omega | (simp; omega))
    refine Hb.take (v := .bool true) 7 92 rfl ?_ (fun _ _ => rfl)
    refine Hb.take (v := .bool true) 8 93 rfl ?_ (fun _ _ => rfl)
    refine Hb.pass 9 94 rfl ?_
    refine Hb.pass 10 95 rfl ?_
    refine Hb.pass 11 96 rfl ?_
    refine Hb.pass 12 97 rfl ?_
    refine Hb.pass 13 98 rfl ?_
    refine Hb.pass 14 99 rfl ?_
    refine Hb.pass 15 100 rfl ?_
    refine Hb.pass 16 101 rfl ?_
    refine Hb.pass 17 102 rfl ?_
    refine Hb.take (v := Value.bool true) 18 103 rfl ?_ (fun _ _ => rfl)
    refine Hb.take (v := Value.bool true) 19 4 rfl ?_ (fun _ _ => rfl)
    refine Hb.done ?_
-- END
    go_wp2_with fail
    go_ret
    exact ⟨rfl, BL8.out.drew⟩
  have L7 := Lib.hid (show (PMsg.enc m1).length ≠ 0 by have := PMsg.enc_pos hm1; omega)
  have L8 := Lib.hid (show (PMsg.enc y).length ≠ 0 by have := PMsg.enc_pos hm2; omega)
  obtain ⟨qq, HQ⟩ : ∃ r, Hid (PMsg.eqM m1 y = r) := ⟨_, Lib.hid rfl⟩
  have HQ2 := Lib.hid ((enc_eq hm1 hm2).trans HQ.out)
  clear hm1 hm2
-- REGION curfew/curfewlaw16.WireTwins 27 wtw27c_9 2
  refine Hb.begin ?_
  refine Hb.take (v := .slice A7 (PMsg.enc m1).length c7) 0 85 rfl ?_ (fun _ _ => rfl)
  refine Hb.take (v := .int .i64 ((PMsg.enc m1).length : Int)) 1 86 rfl ?_ (fun w' hw' => by go_simp; first | done | rfl | omega | exact wrap_in (by omega) (by omega) | exact Int.tmod_eq_emod_of_nonneg (by omega) | exact Int.tdiv_eq_ediv_of_nonneg (by omega) | (simp; omega))
  refine Hb.take (v := .bool false) 2 87 rfl ?_ (fun w' hw' => by have e := L7.out; go_simp; first | done | rfl | omega | (simp; omega))
  refine Hb.take (v := .bool false) 3 88 rfl ?_ (fun _ _ => rfl)
  refine Hb.take (v := .slice A8 (PMsg.enc y).length c8) 4 89 rfl ?_ (fun _ _ => rfl)
  refine Hb.take (v := .int .i64 ((PMsg.enc y).length : Int)) 5 90 rfl ?_ (fun w' hw' => by go_simp; first | done | rfl | omega | exact wrap_in (by omega) (by omega) | exact Int.tmod_eq_emod_of_nonneg (by omega) | exact Int.tdiv_eq_ediv_of_nonneg (by omega) | (simp; omega))
  refine Hb.take (v := .bool false) 6 91 rfl ?_ (fun w' hw' => by have e := L8.out; go_simp; first | done | rfl | omega | (simp; omega))
  refine Hb.take (v := .bool false) 7 92 rfl ?_ (fun _ _ => rfl)
  refine Hb.take (v := .bool false) 8 93 rfl ?_ (fun _ _ => rfl)
  refine Hb.take (v := .slice A7 (PMsg.enc m1).length c7) 9 94 rfl ?_ (fun _ _ => rfl)
  refine Hb.take (v := .string (strOfNums (PMsg.enc m1))) 10 95 rfl ?_ (fun w' hw' => by exact run_toStrOp 5 rfl (P7.out.drew.below hw') Tryd.underlying29 Tryd.underlying5 Tryd.underlying9)
  refine Hb.take (v := .slice A8 (PMsg.enc y).length c8) 11 96 rfl ?_ (fun _ _ => rfl)
  refine Hb.take (v := .string (strOfNums (PMsg.enc y))) 12 97 rfl ?_ (fun w' hw' => by exact run_toStrOp 5 rfl (P8.out.drew.below hw') Tryd.underlying29 Tryd.underlying5 Tryd.underlying9)
  refine Hb.take (v := .bool qq) 13 98 rfl ?_ (fun w' hw' => by exact run_strEq rfl rfl ((strOfNums_beq HB1.out HB2.out).trans HQ2.out))
  refine Hb.take (v := mv m1 A1 c1) 14 99 rfl ?_ (fun w' hw' => by exact run_loadM (K8.out.drew.past hw') rfl)
  refine Hb.take (v := mv y A9 c9) 15 100 rfl ?_ (fun w' hw' => by exact run_loadM (X8.out.drew.past hw') rfl)
  refine Hb.call (f := 14) (args := #[mv m1 A1 c1, mv y A9 c9]) 16 101 rfl ?_ (run_callf Tryd.func14 (by kernel_rfl) (by kernel_rfl) (by simp only [List.map_toArray, List.map_cons, List.map_nil]; rfl))
  refine (rEqM_c w8.drew m1 y A1 A9 c1 c9 RM8.out.drew RX8.out.drew).mono ?_
  rw [HQ.out]
  rintro x w9 ⟨rfl, b9⟩
  have BL9 := Lib.hid (BL8.out.drew.trans (b9.mono BL8.out.size))
  refine Hb.back b9 b9.size ?_
  refine Hb.take (v := .bool true) 17 102 rfl ?_ (fun w' hw' => by go_simp; first | done | rfl | omega | exact wrap_in (by omega) (by omega) | exact Int.tmod_eq_emod_of_nonneg (by omega) | exact Int.tdiv_eq_ediv_of_nonneg (by omega) | (simp; omega))
  refine Hb.take (v := .bool true) 18 103 rfl ?_ (fun _ _ => rfl)
  refine Hb.take (v := .bool true) 19 4 rfl ?_ (fun _ _ => rfl)
  refine Hb.done ?_
-- END
  go_wp2_with fail
  go_ret
  exact ⟨rfl, BL9.out⟩
end Go.Proofs.YtgcpofiecbpfbaaDoor

/- My words for slices, more. -/
namespace Go.Proofs.YtgcpofiecbpfbaaDoor
open Go.RowKit

/-- A cut whose bounds are reckoned: each bound's number is told apart from its spelling. -/
theorem wpList_cutI {P : Program} {w : World} {ops : Array Oper} {rest : List Oper} {o : Oper} {a : Act} {Q : Exit → Act → World → Prop} (hgd : o.guard = none) (t : TypeId) (x : Operand) (lo hig : Option Operand) (ho : o.op = .slice t x lo hig none)
    (e : TypeId) (z : Option Value) (k bytes : Nat) (ht : P.underlying t = some (.slice e)) (hi : (P.info? e).map (fun i => (i.zero, i.size, i.bytes)) = some (z, k, bytes))
    (B : Nat) (A : Option Addr) (c n : Nat) (xs : List Value) (hx : a.eval x = .slice A n c) (hr : Rd w B A c k n xs)
    (l m : Nat) (L M : Int) (hlo : lo.map a.eval = none ∧ l = 0 ∨ lo.map a.eval = some (.int .i64 L) ∧ L = l) (hhi : hig.map a.eval = none ∧ m = n ∨ hig.map a.eval = some (.int .i64 M) ∧ M = m) (h1 : l ≤ m) (h2 : m ≤ n)
    (h : ∀ A' c', Rd w B A' c' k (m - l) ((xs.drop (l * k)).take ((m - l) * k)) → wpList P ops Q rest (a.put o.dst (.slice A' (m - l) c')) w) : wpList P ops Q (o :: rest) a w :=
  wpList_cut hgd t x lo hig ho e z k bytes ht hi B A c n xs hx hr l m (hlo.imp id fun ⟨h1, h2⟩ => by rw [h1, h2]) (hhi.imp id fun ⟨h1, h2⟩ => by rw [h1, h2]) h1 h2 h

end Go.Proofs.YtgcpofiecbpfbaaDoor

/- The walk of WireBytes. -/
namespace Go.Proofs.YtgcpofiecbpfbaaDoor
open Go.RowKit

set_option maxHeartbeats 8000000 in
set_option maxRecDepth 100000 in
theorem WireBytes_lo (w : World) (ht : Tab w) (m : Msg) (A : Option Addr) (c : Nat) (ra : Rd w w.heap.size A c 7 m.es.length (els m.es)) (oa : MsgOk m) (a cut x : Int) (ha : -9223372036854775808 ≤ a ∧ a ≤ 9223372036854775807) (hcut : -9223372036854775808 ≤ cut ∧ cut ≤ 9223372036854775807) (hx0 : 0 ≤ x) (hx1 : x < 256) (hc : cut ≤ 0) :
    Calls Tryd.prog 4 #[mv m A c, .int .i64 a, .int .i64 cut, .int .u8 x] w fun e w' => e = .returned (.bool true) ∧ Below w.heap.size w w' := by
  obtain ⟨x, rfl⟩ := Int.eq_ofNat_of_zero_le hx0
  have OK := Lib.hid oa
  have RA := Lib.hid ra
  have HT := Lib.hid ht
  clear oa ra ht
  have b1 := (Below.refl w.heap.size w).alloc (Nat.le_refl _) (.cells #[.int .i64 m.kind, .int .i64 m.fr, .int .i64 m.dst, .int .i64 m.boot, .int .i64 m.view, .int .i64 m.last, .int .i64 m.mem, .int .i64 m.pos, .slice A m.es.length c, .int .i64 m.com, .int .i64 m.num, .int .i64 m.clk, .bool m.yes] 24)
  have K0 := Blk.new w #[.int .i64 m.kind, .int .i64 m.fr, .int .i64 m.dst, .int .i64 m.boot, .int .i64 m.view, .int .i64 m.last, .int .i64 m.mem, .int .i64 m.pos, .slice A m.es.length c, .int .i64 m.com, .int .i64 m.num, .int .i64 m.clk, .bool m.yes] 24
  show Calls _ _ #[.agg #[.int .i64 m.kind, .int .i64 m.fr, .int .i64 m.dst, .int .i64 m.boot, .int .i64 m.view, .int .i64 m.last, .int .i64 m.mem, .int .i64 m.pos, .slice A m.es.length c, .int .i64 m.com, .int .i64 m.num, .int .i64 m.clk, .bool m.yes], .int .i64 a, .int .i64 cut, .int .u8 x] _ _
  go_enter Tryd.func4, Tryd.ntmps4
  go_wp2_with fail
  generalize w.alloc (.cells #[.int .i64 m.kind, .int .i64 m.fr, .int .i64 m.dst, .int .i64 m.boot, .int .i64 m.view, .int .i64 m.last, .int .i64 m.mem, .int .i64 m.pos, .slice A m.es.length c, .int .i64 m.com, .int .i64 m.num, .int .i64 m.clk, .bool m.yes] 24) = w1 at *
  refine (begunM_c w1 (HT.out.past b1)).mono ?_
  rintro y w2 ⟨rfl, b2⟩
  have BL2 := Lib.hid (b1.trans (b2.mono b1.size))
  have K2 := Lib.hid (show Blk w2 w.heap.size 24 (mcs m A c) from K0.past b2)
  clear b1 b2 K0
  go_wp2_with ((with_reducible show wpList _ _ _ ((⟨some 17, Op.load _ _, _, _, _, _⟩ : Oper) :: _) _ _); go_must (refine wpList_load_row rfl 24 (.tmp 4) rfl w.heap.size rfl 24 #[.int .i64 m.kind, .int .i64 m.fr, .int .i64 m.dst, .int .i64 m.boot, .int .i64 m.view, .int .i64 m.last, .int .i64 m.mem, .int .i64 m.pos, .slice A m.es.length c, .int .i64 m.com, .int .i64 m.num, .int .i64 m.clk, .bool m.yes] (0, 0) _ K2.out Tryd.underlying24 rfl (by kernel_rfl) ?_))
  refine (lCutM_c w2 m A c ((RA.out.past BL2.out).tight) OK.out.ents).mono ?_
  rintro y w3 ⟨A1, c1, es, rfl, hle, hown, -, b3⟩
  have BL3 := Lib.hid (BL2.out.trans (b3.mono BL2.out.size))
  have K3 := Lib.hid (K2.out.past b3)
  have O3 := Lib.hid (own_from hown BL2.out.size)
  clear b3 hown K2 BL2 hle
  have GG := grown_row w3 w.heap.size #[.int .i64 (withE m es).kind, .int .i64 (withE m es).fr, .int .i64 (withE m es).dst, .int .i64 (withE m es).boot, .int .i64 (withE m es).view, .int .i64 (withE m es).last, .int .i64 (withE m es).mem, .int .i64 (withE m es).pos, .slice A1 (withE m es).es.length c1, .int .i64 (withE m es).com, .int .i64 (withE m es).num, .int .i64 (withE m es).clk, .bool (withE m es).yes]
  have R4 := Lib.hid (show Rd (w3.setRow w.heap.size #[.int .i64 (withE m es).kind, .int .i64 (withE m es).fr, .int .i64 (withE m es).dst, .int .i64 (withE m es).boot, .int .i64 (withE m es).view, .int .i64 (withE m es).last, .int .i64 (withE m es).mem, .int .i64 (withE m es).pos, .slice A1 (withE m es).es.length c1, .int .i64 (withE m es).com, .int .i64 (withE m es).num, .int .i64 (withE m es).clk, .bool (withE m es).yes]) (w3.setRow w.heap.size #[.int .i64 (withE m es).kind, .int .i64 (withE m es).fr, .int .i64 (withE m es).dst, .int .i64 (withE m es).boot, .int .i64 (withE m es).view, .int .i64 (withE m es).last, .int .i64 (withE m es).mem, .int .i64 (withE m es).pos, .slice A1 (withE m es).es.length c1, .int .i64 (withE m es).com, .int .i64 (withE m es).num, .int .i64 (withE m es).clk, .bool (withE m es).yes]).heap.size A1 c1 7 (withE m es).es.length (els (withE m es).es) from Rd.of_own (own_apartB O3.out K3.out (by decide) GG))
  have BL4 := Lib.hid (BL3.out.trans (grown_below GG (Nat.le_refl _) BL3.out.size))
  have K4 := Lib.hid (show Blk (w3.setRow w.heap.size #[.int .i64 (withE m es).kind, .int .i64 (withE m es).fr, .int .i64 (withE m es).dst, .int .i64 (withE m es).boot, .int .i64 (withE m es).view, .int .i64 (withE m es).last, .int .i64 (withE m es).mem, .int .i64 (withE m es).pos, .slice A1 (withE m es).es.length c1, .int .i64 (withE m es).com, .int .i64 (withE m es).num, .int .i64 (withE m es).clk, .bool (withE m es).yes]) w.heap.size 24 (mcs (withE m es) A1 c1) from K3.out.row #[.int .i64 (withE m es).kind, .int .i64 (withE m es).fr, .int .i64 (withE m es).dst, .int .i64 (withE m es).boot, .int .i64 (withE m es).view, .int .i64 (withE m es).last, .int .i64 (withE m es).mem, .int .i64 (withE m es).pos, .slice A1 (withE m es).es.length c1, .int .i64 (withE m es).com, .int .i64 (withE m es).num, .int .i64 (withE m es).clk, .bool (withE m es).yes])
  have HMM := Lib.hid (show -9223372036854775808 ≤ (withE m es).mem ∧ (withE m es).mem ≤ 9223372036854775807 from OK.out.f6)
  clear GG
  go_wp2_with (first | ((with_reducible show wpList _ _ _ ((⟨none, Op.store 24 (.tmp 4) _, _, _, _, _⟩ : Oper) :: _) _ _); go_must (refine wpList_store_row rfl 24 (.tmp 4) (.tmp 18) rfl w.heap.size _ rfl rfl _ _ K3.out (by kernel_rfl) (by rfl) (by kernel_rfl) ?_)) | ((with_reducible show wpList _ _ _ ((⟨some 19, Op.load _ _, _, _, _, _⟩ : Oper) :: _) _ _); go_must (refine wpList_load_row rfl 24 (.tmp 4) rfl w.heap.size rfl 24 #[.int .i64 (withE m es).kind, .int .i64 (withE m es).fr, .int .i64 (withE m es).dst, .int .i64 (withE m es).boot, .int .i64 (withE m es).view, .int .i64 (withE m es).last, .int .i64 (withE m es).mem, .int .i64 (withE m es).pos, .slice A1 (withE m es).es.length c1, .int .i64 (withE m es).com, .int .i64 (withE m es).num, .int .i64 (withE m es).clk, .bool (withE m es).yes] (0, 0) _ K4.out Tryd.underlying24 rfl (by kernel_rfl) ?_)))
  generalize w3.setRow w.heap.size #[.int .i64 (withE m es).kind, .int .i64 (withE m es).fr, .int .i64 (withE m es).dst, .int .i64 (withE m es).boot, .int .i64 (withE m es).view, .int .i64 (withE m es).last, .int .i64 (withE m es).mem, .int .i64 (withE m es).pos, .slice A1 (withE m es).es.length c1, .int .i64 (withE m es).com, .int .i64 (withE m es).num, .int .i64 (withE m es).clk, .bool (withE m es).yes] = w4 at *
  generalize withE m es = m1 at *
  clear K3 O3 BL3
  refine (wEncode_c w4 m1 A1 c1 R4.out HMM.out (HT.out.past BL4.out)).mono ?_
  rintro y w5 ⟨A5, c5, rfl, hown, b5⟩
  have BL5 := Lib.hid (BL4.out.trans (b5.mono BL4.out.size))
  have K5 := Lib.hid (K4.out.past b5)
  have R5 := Lib.hid ((R4.out.past b5).tight)
  have S5 := Lib.hid (Rd.of_own hown)
  clear b5 hown K4 R4 BL4
  have HNO := Lib.hid (fun h : PMsg.may m1 = false => PMsg.enc_no h)
  have HPOS := Lib.hid (fun h : PMsg.may m1 = true => PMsg.enc_pos h)
  have HDE := Lib.hid (fun h : PMsg.may m1 = true => PMsg.dec_enc h)
  have HEACH := Lib.hid (fun (h : PMsg.may m1 = true) (z : Int) (i : Nat) (hz : 0 ≤ z ∧ z < 256) (hi : i < (PMsg.enc m1).length) (h0 : z ≠ 0) => PMsg.dec_each h hz hi h0)
  have HEB := Lib.hid (PMsg.enc_byte m1)
  have hEL := PMsg.enc_len m1
  have KR := Lib.hid (fun w A c h => rBytes_c w m1 A c h)
  generalize PMsg.enc m1 = E at *
  generalize hn : E.length = N at *
  have HN := Lib.hid hn
  clear hn
  go_wp2_with fail
-- REGION curfew/curfewlaw16.WireBytes 6 wby6 2
  refine Hb.begin ?_
  refine Hb.take (v := .slice A5 N c5) 0 21 rfl ?_ (fun _ _ => rfl)
  refine Hb.take (v := .string (strOfNums E)) 1 22 rfl ?_ (fun w' hw' => by exact run_toStrOp 5 rfl (S5.out.drew.below hw') Tryd.underlying29 Tryd.underlying5 Tryd.underlying9)
  refine Hb.take (v := mv m1 A1 c1) 2 23 rfl ?_ (fun w' hw' => by exact run_loadM (K5.out.drew.past hw') rfl)
  refine Hb.call (f := 16) (args := #[mv m1 A1 c1]) 3 24 rfl ?_ (run_callf Tryd.func16 (by kernel_rfl) (by kernel_rfl) (by simp only [List.map_toArray, List.map_cons, List.map_nil]; rfl))
  refine (KR.out w5.drew A1 c1 R5.out.drew).mono ?_
  rintro y w6 ⟨A6, c6, rfl, hown, b6⟩
  have Q6 := Lib.hid (Rd.of_own hown)
  have B6 := Lib.hid (show Below w5.heap.size w5 w6 from (Below.refl _ _).drew.trans b6)
  refine Hb.back b6 b6.size ?_
  refine Hb.take (v := .string (strOfNums E)) 4 25 rfl ?_ (fun w' hw' => by exact run_toStrOp 5 rfl (Q6.out.below hw') Tryd.underlying29 Tryd.underlying5 Tryd.underlying9)
  refine Hb.take (v := .bool false) 5 26 rfl ?_ (fun w' hw' => by exact run_strNe rfl rfl (by simp))
  refine Hb.done ?_
-- END
  have BL6 := Lib.hid (BL5.out.trans (B6.out.mono BL5.out.size))
  have K6 := Lib.hid (K5.out.past B6.out)
  have R6 := Lib.hid ((R5.out.past B6.out).tight)
  have S6 := Lib.hid ((S5.out.past B6.out).tight)
  clear K5 R5 S5 BL5 B6 KR
  cases hm : PMsg.may m1
  · have hN0 : N = 0 := by rw [← HN.out, HNO.out hm]; rfl
    subst hN0
    go_wp2_with ((with_reducible show wpList _ _ _ ((⟨some 30, Op.load _ _, _, _, _, _⟩ : Oper) :: _) _ _); go_must (refine wpList_load_row rfl 24 (.tmp 4) rfl w.heap.size rfl 24 #[.int .i64 m1.kind, .int .i64 m1.fr, .int .i64 m1.dst, .int .i64 m1.boot, .int .i64 m1.view, .int .i64 m1.last, .int .i64 m1.mem, .int .i64 m1.pos, .slice A1 m1.es.length c1, .int .i64 m1.com, .int .i64 m1.num, .int .i64 m1.clk, .bool m1.yes] (0, 0) _ K6.out Tryd.underlying24 rfl (by kernel_rfl) ?_))
    refine (rMayM_c w6 m1 A1 c1 R6.out).mono ?_
    rw [hm]
    rintro y w7 ⟨rfl, b7⟩
    have BL7 := Lib.hid (BL6.out.trans (b7.mono BL6.out.size))
    clear b7 hm
    go_wp2_with fail
    go_ret
    exact ⟨rfl, BL7.out⟩
  have hNp : 0 < N := HPOS.out hm
  have HEACH := Lib.hid (HEACH.out hm)
  have HD := Lib.hid (HDE.out hm)
  clear hm HNO HPOS HDE
  go_wp2_with fail
  refine (wDecode_some S6.out HEB.out (HT.out.past BL6.out) (by omega) HD.out).mono ?_
  rintro y w7 ⟨A7, c7, rfl, hr7, b7⟩
  have b8 := (Below.refl w7.heap.size w7).alloc (Nat.le_refl _) (.cells #[.int .i64 m1.kind, .int .i64 m1.fr, .int .i64 m1.dst, .int .i64 m1.boot, .int .i64 m1.view, .int .i64 m1.last, .int .i64 m1.mem, .int .i64 m1.pos, .slice A7 m1.es.length c7, .int .i64 m1.com, .int .i64 m1.num, .int .i64 m1.clk, .bool m1.yes] 24)
  have BL8 := Lib.hid ((BL6.out.trans (b7.mono BL6.out.size)).trans (b8.mono (Nat.le_trans BL6.out.size b7.size)))
  have K8 := Lib.hid ((K6.out.past b7).past b8)
  have R8 := Lib.hid (((R6.out.past b7).past b8).tight)
  have S8 := Lib.hid (((S6.out.past b7).past b8).tight)
  have T8 := Lib.hid ((hr7.past b8).tight)
  have X8 := Lib.hid (show Blk (w7.alloc (.cells #[.int .i64 m1.kind, .int .i64 m1.fr, .int .i64 m1.dst, .int .i64 m1.boot, .int .i64 m1.view, .int .i64 m1.last, .int .i64 m1.mem, .int .i64 m1.pos, .slice A7 m1.es.length c7, .int .i64 m1.com, .int .i64 m1.num, .int .i64 m1.clk, .bool m1.yes] 24)) w7.heap.size 24 (mcs m1 A7 c7) from Blk.new w7 #[.int .i64 m1.kind, .int .i64 m1.fr, .int .i64 m1.dst, .int .i64 m1.boot, .int .i64 m1.view, .int .i64 m1.last, .int .i64 m1.mem, .int .i64 m1.pos, .slice A7 m1.es.length c7, .int .i64 m1.com, .int .i64 m1.num, .int .i64 m1.clk, .bool m1.yes] 24)
  have HG7 := Lib.hid (show w.heap.size ≤ w7.heap.size from Nat.le_trans BL6.out.size b7.size)
  clear b7 b8 hr7 K6 R6 S6 BL6
  go_wp2_with (first | ((with_reducible show wpList _ _ _ ((⟨some 41, Op.load _ _, _, _, _, _⟩ : Oper) :: _) _ _); go_must (refine wpList_unguard rfl ?_; refine wpList_load_row rfl 24 (.tmp 4) rfl w.heap.size rfl 24 #[.int .i64 m1.kind, .int .i64 m1.fr, .int .i64 m1.dst, .int .i64 m1.boot, .int .i64 m1.view, .int .i64 m1.last, .int .i64 m1.mem, .int .i64 m1.pos, .slice A1 m1.es.length c1, .int .i64 m1.com, .int .i64 m1.num, .int .i64 m1.clk, .bool m1.yes] (0, 0) _ K8.out Tryd.underlying24 rfl (by kernel_rfl) ?_)) | ((with_reducible show wpList _ _ _ ((⟨some 42, Op.load _ _, _, _, _, _⟩ : Oper) :: _) _ _); go_must (refine wpList_unguard rfl ?_; refine wpList_load_row rfl 24 (.tmp 11) rfl w7.heap.size rfl 24 #[.int .i64 m1.kind, .int .i64 m1.fr, .int .i64 m1.dst, .int .i64 m1.boot, .int .i64 m1.view, .int .i64 m1.last, .int .i64 m1.mem, .int .i64 m1.pos, .slice A7 m1.es.length c7, .int .i64 m1.com, .int .i64 m1.num, .int .i64 m1.clk, .bool m1.yes] (0, 0) _ X8.out Tryd.underlying24 rfl (by kernel_rfl) ?_)))
  generalize w7.alloc (.cells #[.int .i64 m1.kind, .int .i64 m1.fr, .int .i64 m1.dst, .int .i64 m1.boot, .int .i64 m1.view, .int .i64 m1.last, .int .i64 m1.mem, .int .i64 m1.pos, .slice A7 m1.es.length c7, .int .i64 m1.com, .int .i64 m1.num, .int .i64 m1.clk, .bool m1.yes] 24) = w8 at *
  generalize w7.heap.size = g7 at *
  refine (rEqM_c w8 m1 m1 A1 A7 c1 c7 R8.out T8.out).mono ?_
  rw [PMsg.eqM_refl]
  rintro y w9 ⟨rfl, b9⟩
  have BL9 := Lib.hid (BL8.out.trans (b9.mono BL8.out.size))
  have X9 := Lib.hid (X8.out.past b9)
  have S9 := Lib.hid ((S8.out.past b9).tight)
  clear b9 K8 R8 S8 T8 X8 BL8
  have BL10 := BL9
  have X10 := X9
  have S10 := S9
  clear BL9 X9 S9
  generalize w9 = w10 at *
  go_wp2_with (at_builtin; go_must (refine wpList_app rfl (.const (.slice none 0 0)) (.tmp 64) _ rfl w10.heap.size 5 _ 1 1 Tryd.underlying29 byte_info rfl (by omega) _ 0 [] rfl (World.ownsRow_nil _ _ _ _) _ A5 c5 N (bs E) rfl S10.out (bs_one _) ?c1 ?c2 (Nat.le_refl _) ?_))
  case c1 => unfold maxLen; omega
  case c2 => omega
  intro A11 c11 w11 hown11 hgrow11 hb11
  have O11 := Lib.hid (show w11.ownsRow w10.heap.size 5 1 (.slice A11 N c11) N (bs E) by simpa using hown11)
  clear hown11 hgrow11
  have hs11 := hb11.size
  go_wp2_with (at_builtin; go_must (refine wpList_pushes rfl (.tmp 65) (.tmp 67) _ rfl w10.heap.size 5 _ 1 1 1 Tryd.underlying29 byte_info rfl (by omega) rfl (by simp [maxLen]) A11 c11 N (bs E) rfl O11.out rfl ?d1 ?d2 ?d3 ?d4 ?_))
  case d1 => rfl
  case d2 => unfold maxLen; omega
  case d3 => omega
  case d4 => omega
  intro A13 c13 w13 hown13 hgrow13 hb13
  have R13 := Lib.hid (show Rd w13 w13.heap.size A13 c13 1 (N + 1) (bs (E ++ [(x : Int)])) by rw [bs_append]; exact Rd.of_own hown13)
  have HB13 := Lib.hid (show isB (E ++ [(x : Int)]) from HEB.out.append (by intro y hy; simp at hy; subst hy; exact ⟨hx0, hx1⟩))
  have b13 := hb11.trans hb13
  have BL13 := Lib.hid (BL10.out.trans (b13.mono BL10.out.size))
  have X13 := Lib.hid (X10.out.past b13)
  have S13 := Lib.hid ((S10.out.past b13).tight)
  clear hown13 hgrow13 hb13 hb11 hs11 b13 O11 X10 S10 BL10
  go_wp2_with fail
  refine (tellsM_c w13 _ A13 c13 (N + 1) _ R13.out HB13.out (HT.out.past BL13.out) (by omega)).mono ?_
  rintro y w14 ⟨rfl, b14⟩
  have BL14 := Lib.hid (BL13.out.trans (b14.mono BL13.out.size))
  have X14 := Lib.hid (X13.out.past b14)
  have S14 := Lib.hid ((S13.out.past b14).tight)
  clear b14 R13 HB13 X13 S13 BL13
  by_cases hneg : a < 0
  · go_wp2_with fail
    go_ret
    exact ⟨rfl, BL14.out⟩
  obtain ⟨a, rfl⟩ := Int.eq_ofNat_of_zero_le (show 0 ≤ a by omega)
  by_cases hx00 : x = 0
  · subst hx00
    go_wp2_with fail
    go_ret
    exact ⟨rfl, BL14.out⟩
  have hxne : ((x : Int) == 0) = false := by simp; omega
  go_wp2_with (at_builtin; go_must (refine wpList_app rfl (.const (.slice none 0 0)) (.tmp 77) _ rfl w14.heap.size 5 _ 1 1 Tryd.underlying29 byte_info rfl (by omega) _ 0 [] rfl (World.ownsRow_nil _ _ _ _) _ A5 c5 N (bs E) rfl S14.out (bs_one _) ?c1 ?c2 (Nat.le_refl _) ?_))
  case c1 => unfold maxLen; omega
  case c2 => omega
  intro A15 c15 w15 hown15 hgrow15 hb15
  have hown8 : w15.ownsRow w14.heap.size 5 1 (.slice A15 N c15) N (bs E) := by simpa using hown15
  clear hown15 hgrow15
  obtain ⟨g, rfl, hg1, hg2⟩ := own_some hown8 (by omega)
  have hj : a % N < N := Nat.mod_lt _ (by omega)
  have HJ := Lib.hid (show (a : Int) % (N : Int) = ((a % N : Nat) : Int) by omega)
  generalize a % N = j at *
  obtain ⟨u, hu⟩ : ∃ u, E[j]? = some u := ⟨_, List.getElem?_eq_getElem (by rw [HN.out]; exact hj)⟩
  have hub := HEB.out u (List.mem_of_getElem? hu)
  have hcg : w15.cell? ⟨g, j, none⟩ = some (.int .u8 u) := by
    rw [hown8.cellAt j (by omega), bs, List.getElem?_map, hu]; rfl
  have hfz : w15.frozen? ⟨g, j, none⟩ = false := hown8.frozenAt j
  have hst := hown8.stored j (.int .u8 (u.toNat ^^^ x : Nat))
  have hnext : (bs E).set j (.int .u8 (u.toNat ^^^ x : Nat)) = bs (PCrc.lay E [(x : Int)] j) := by
    rw [bs, ← List.map_set, PCrc.lay_one _ j u x hu]; rfl
  rw [hnext] at hst
  obtain ⟨u, rfl⟩ := Int.eq_ofNat_of_zero_le hub.1
  simp only [Int.toNat_natCast] at hst
  have e1 := u8_xor_nat u x (by omega) (by omega)
  have HDN := Lib.hid (HEACH.out (x : Int) j ⟨hx0, hx1⟩ hj (by omega))
  have HDB := Lib.hid (show isB (PCrc.lay E [(x : Int)] j) from PCrc.lay_byte j HEB.out (by intro y hy; simp at hy; subst hy; exact ⟨hx0, hx1⟩))
  have RD := Lib.hid (Rd.of_own hst.1)
  have G15 := grown_set w15 g j (.int .u8 (u ^^^ x : Nat))
  have hX14 := X14.out.lt
  have X15 := Lib.hid ((X14.out.past hb15).far G15 (by omega))
  have BL15 := Lib.hid ((BL14.out.trans (hb15.mono BL14.out.size)).trans ((grown_below G15 hg1 hb15.size).mono BL14.out.size))
  clear hnext hst hu hub hown8 hb15 G15 hX14 X14 S14 BL14 HEACH
  generalize PCrc.lay E [(x : Int)] j = D at *
  have e2 := HJ.out
  go_wp2_with fail
  clear hcg hfz e1 e2
  generalize w15.setCell ⟨g, j, none⟩ (.int .u8 (u ^^^ x : Nat)) = w16 at *
  refine (wDecode_none RD.out HDB.out (HT.out.past BL15.out) (by omega) HDN.out).mono ?_
  rintro y w17 ⟨A12, c12, rfl, b17⟩
  have BL17 := Lib.hid (BL15.out.trans (b17.mono BL15.out.size))
  have X17 := Lib.hid (X15.out.past b17)
  have X18 := Lib.hid (X17.out.row #[.int .i64 0, .int .i64 0, .int .i64 0, .int .i64 0, .int .i64 0, .int .i64 0, .int .i64 0, .int .i64 0, .slice A12 0 c12, .int .i64 0, .int .i64 0, .int .i64 0, .bool false])
  have k0 := X18.out.cell (i := 0) rfl
  have B18 := Lib.hid (grown_below (grown_row w17 g7 #[.int .i64 0, .int .i64 0, .int .i64 0, .int .i64 0, .int .i64 0, .int .i64 0, .int .i64 0, .int .i64 0, .slice A12 0 c12, .int .i64 0, .int .i64 0, .int .i64 0, .bool false]) HG7.out BL17.out.size)
  go_wp2_with ((with_reducible show wpList _ _ _ ((⟨none, Op.store 24 (.tmp 11) _, _, _, _, _⟩ : Oper) :: _) _ _); go_must (refine wpList_store_row rfl 24 (.tmp 11) (.tmp 92) rfl g7 _ rfl rfl _ _ X17.out (by kernel_rfl) (by rfl) (by kernel_rfl) ?_))
  go_ret
  exact ⟨rfl, BL17.out.trans B18.out⟩
end Go.Proofs.YtgcpofiecbpfbaaDoor

/- The walk of WireBytes. -/
namespace Go.Proofs.YtgcpofiecbpfbaaDoor
open Go.RowKit

set_option maxHeartbeats 8000000 in
set_option maxRecDepth 100000 in
theorem WireBytes_in (w : World) (ht : Tab w) (m : Msg) (A : Option Addr) (c : Nat) (ra : Rd w w.heap.size A c 7 m.es.length (els m.es)) (oa : MsgOk m) (a cut x : Int) (ha : -9223372036854775808 ≤ a ∧ a ≤ 9223372036854775807) (hcut : -9223372036854775808 ≤ cut ∧ cut ≤ 9223372036854775807) (hx0 : 0 ≤ x) (hx1 : x < 256) (hc : 0 < cut) :
    Calls Tryd.prog 4 #[mv m A c, .int .i64 a, .int .i64 cut, .int .u8 x] w fun e w' => e = .returned (.bool true) ∧ Below w.heap.size w w' := by
  obtain ⟨x, rfl⟩ := Int.eq_ofNat_of_zero_le hx0
  have OK := Lib.hid oa
  have RA := Lib.hid ra
  have HT := Lib.hid ht
  clear oa ra ht
  have b1 := (Below.refl w.heap.size w).alloc (Nat.le_refl _) (.cells #[.int .i64 m.kind, .int .i64 m.fr, .int .i64 m.dst, .int .i64 m.boot, .int .i64 m.view, .int .i64 m.last, .int .i64 m.mem, .int .i64 m.pos, .slice A m.es.length c, .int .i64 m.com, .int .i64 m.num, .int .i64 m.clk, .bool m.yes] 24)
  have K0 := Blk.new w #[.int .i64 m.kind, .int .i64 m.fr, .int .i64 m.dst, .int .i64 m.boot, .int .i64 m.view, .int .i64 m.last, .int .i64 m.mem, .int .i64 m.pos, .slice A m.es.length c, .int .i64 m.com, .int .i64 m.num, .int .i64 m.clk, .bool m.yes] 24
  show Calls _ _ #[.agg #[.int .i64 m.kind, .int .i64 m.fr, .int .i64 m.dst, .int .i64 m.boot, .int .i64 m.view, .int .i64 m.last, .int .i64 m.mem, .int .i64 m.pos, .slice A m.es.length c, .int .i64 m.com, .int .i64 m.num, .int .i64 m.clk, .bool m.yes], .int .i64 a, .int .i64 cut, .int .u8 x] _ _
  go_enter Tryd.func4, Tryd.ntmps4
  go_wp2_with fail
  generalize w.alloc (.cells #[.int .i64 m.kind, .int .i64 m.fr, .int .i64 m.dst, .int .i64 m.boot, .int .i64 m.view, .int .i64 m.last, .int .i64 m.mem, .int .i64 m.pos, .slice A m.es.length c, .int .i64 m.com, .int .i64 m.num, .int .i64 m.clk, .bool m.yes] 24) = w1 at *
  refine (begunM_c w1 (HT.out.past b1)).mono ?_
  rintro y w2 ⟨rfl, b2⟩
  have BL2 := Lib.hid (b1.trans (b2.mono b1.size))
  have K2 := Lib.hid (show Blk w2 w.heap.size 24 (mcs m A c) from K0.past b2)
  clear b1 b2 K0
  go_wp2_with ((with_reducible show wpList _ _ _ ((⟨some 17, Op.load _ _, _, _, _, _⟩ : Oper) :: _) _ _); go_must (refine wpList_load_row rfl 24 (.tmp 4) rfl w.heap.size rfl 24 #[.int .i64 m.kind, .int .i64 m.fr, .int .i64 m.dst, .int .i64 m.boot, .int .i64 m.view, .int .i64 m.last, .int .i64 m.mem, .int .i64 m.pos, .slice A m.es.length c, .int .i64 m.com, .int .i64 m.num, .int .i64 m.clk, .bool m.yes] (0, 0) _ K2.out Tryd.underlying24 rfl (by kernel_rfl) ?_))
  refine (lCutM_c w2 m A c ((RA.out.past BL2.out).tight) OK.out.ents).mono ?_
  rintro y w3 ⟨A1, c1, es, rfl, hle, hown, -, b3⟩
  have BL3 := Lib.hid (BL2.out.trans (b3.mono BL2.out.size))
  have K3 := Lib.hid (K2.out.past b3)
  have O3 := Lib.hid (own_from hown BL2.out.size)
  clear b3 hown K2 BL2 hle
  have GG := grown_row w3 w.heap.size #[.int .i64 (withE m es).kind, .int .i64 (withE m es).fr, .int .i64 (withE m es).dst, .int .i64 (withE m es).boot, .int .i64 (withE m es).view, .int .i64 (withE m es).last, .int .i64 (withE m es).mem, .int .i64 (withE m es).pos, .slice A1 (withE m es).es.length c1, .int .i64 (withE m es).com, .int .i64 (withE m es).num, .int .i64 (withE m es).clk, .bool (withE m es).yes]
  have R4 := Lib.hid (show Rd (w3.setRow w.heap.size #[.int .i64 (withE m es).kind, .int .i64 (withE m es).fr, .int .i64 (withE m es).dst, .int .i64 (withE m es).boot, .int .i64 (withE m es).view, .int .i64 (withE m es).last, .int .i64 (withE m es).mem, .int .i64 (withE m es).pos, .slice A1 (withE m es).es.length c1, .int .i64 (withE m es).com, .int .i64 (withE m es).num, .int .i64 (withE m es).clk, .bool (withE m es).yes]) (w3.setRow w.heap.size #[.int .i64 (withE m es).kind, .int .i64 (withE m es).fr, .int .i64 (withE m es).dst, .int .i64 (withE m es).boot, .int .i64 (withE m es).view, .int .i64 (withE m es).last, .int .i64 (withE m es).mem, .int .i64 (withE m es).pos, .slice A1 (withE m es).es.length c1, .int .i64 (withE m es).com, .int .i64 (withE m es).num, .int .i64 (withE m es).clk, .bool (withE m es).yes]).heap.size A1 c1 7 (withE m es).es.length (els (withE m es).es) from Rd.of_own (own_apartB O3.out K3.out (by decide) GG))
  have BL4 := Lib.hid (BL3.out.trans (grown_below GG (Nat.le_refl _) BL3.out.size))
  have K4 := Lib.hid (show Blk (w3.setRow w.heap.size #[.int .i64 (withE m es).kind, .int .i64 (withE m es).fr, .int .i64 (withE m es).dst, .int .i64 (withE m es).boot, .int .i64 (withE m es).view, .int .i64 (withE m es).last, .int .i64 (withE m es).mem, .int .i64 (withE m es).pos, .slice A1 (withE m es).es.length c1, .int .i64 (withE m es).com, .int .i64 (withE m es).num, .int .i64 (withE m es).clk, .bool (withE m es).yes]) w.heap.size 24 (mcs (withE m es) A1 c1) from K3.out.row #[.int .i64 (withE m es).kind, .int .i64 (withE m es).fr, .int .i64 (withE m es).dst, .int .i64 (withE m es).boot, .int .i64 (withE m es).view, .int .i64 (withE m es).last, .int .i64 (withE m es).mem, .int .i64 (withE m es).pos, .slice A1 (withE m es).es.length c1, .int .i64 (withE m es).com, .int .i64 (withE m es).num, .int .i64 (withE m es).clk, .bool (withE m es).yes])
  have HMM := Lib.hid (show -9223372036854775808 ≤ (withE m es).mem ∧ (withE m es).mem ≤ 9223372036854775807 from OK.out.f6)
  clear GG
  go_wp2_with (first | ((with_reducible show wpList _ _ _ ((⟨none, Op.store 24 (.tmp 4) _, _, _, _, _⟩ : Oper) :: _) _ _); go_must (refine wpList_store_row rfl 24 (.tmp 4) (.tmp 18) rfl w.heap.size _ rfl rfl _ _ K3.out (by kernel_rfl) (by rfl) (by kernel_rfl) ?_)) | ((with_reducible show wpList _ _ _ ((⟨some 19, Op.load _ _, _, _, _, _⟩ : Oper) :: _) _ _); go_must (refine wpList_load_row rfl 24 (.tmp 4) rfl w.heap.size rfl 24 #[.int .i64 (withE m es).kind, .int .i64 (withE m es).fr, .int .i64 (withE m es).dst, .int .i64 (withE m es).boot, .int .i64 (withE m es).view, .int .i64 (withE m es).last, .int .i64 (withE m es).mem, .int .i64 (withE m es).pos, .slice A1 (withE m es).es.length c1, .int .i64 (withE m es).com, .int .i64 (withE m es).num, .int .i64 (withE m es).clk, .bool (withE m es).yes] (0, 0) _ K4.out Tryd.underlying24 rfl (by kernel_rfl) ?_)))
  generalize w3.setRow w.heap.size #[.int .i64 (withE m es).kind, .int .i64 (withE m es).fr, .int .i64 (withE m es).dst, .int .i64 (withE m es).boot, .int .i64 (withE m es).view, .int .i64 (withE m es).last, .int .i64 (withE m es).mem, .int .i64 (withE m es).pos, .slice A1 (withE m es).es.length c1, .int .i64 (withE m es).com, .int .i64 (withE m es).num, .int .i64 (withE m es).clk, .bool (withE m es).yes] = w4 at *
  generalize withE m es = m1 at *
  clear K3 O3 BL3
  refine (wEncode_c w4 m1 A1 c1 R4.out HMM.out (HT.out.past BL4.out)).mono ?_
  rintro y w5 ⟨A5, c5, rfl, hown, b5⟩
  have BL5 := Lib.hid (BL4.out.trans (b5.mono BL4.out.size))
  have K5 := Lib.hid (K4.out.past b5)
  have R5 := Lib.hid ((R4.out.past b5).tight)
  have S5 := Lib.hid (Rd.of_own hown)
  clear b5 hown K4 R4 BL4
  have HNO := Lib.hid (fun h : PMsg.may m1 = false => PMsg.enc_no h)
  have HPOS := Lib.hid (fun h : PMsg.may m1 = true => PMsg.enc_pos h)
  have HDE := Lib.hid (fun h : PMsg.may m1 = true => PMsg.dec_enc h)
  have HEACH := Lib.hid (fun (h : PMsg.may m1 = true) (z : Int) (i : Nat) (hz : 0 ≤ z ∧ z < 256) (hi : i < (PMsg.enc m1).length) (h0 : z ≠ 0) => PMsg.dec_each h hz hi h0)
  have HEB := Lib.hid (PMsg.enc_byte m1)
  have hEL := PMsg.enc_len m1
  have KR := Lib.hid (fun w A c h => rBytes_c w m1 A c h)
  generalize PMsg.enc m1 = E at *
  generalize hn : E.length = N at *
  have HN := Lib.hid hn
  clear hn
  go_wp2_with fail
-- REGION curfew/curfewlaw16.WireBytes 6 wby6 2
  refine Hb.begin ?_
  refine Hb.take (v := .slice A5 N c5) 0 21 rfl ?_ (fun _ _ => rfl)
  refine Hb.take (v := .string (strOfNums E)) 1 22 rfl ?_ (fun w' hw' => by exact run_toStrOp 5 rfl (S5.out.drew.below hw') Tryd.underlying29 Tryd.underlying5 Tryd.underlying9)
  refine Hb.take (v := mv m1 A1 c1) 2 23 rfl ?_ (fun w' hw' => by exact run_loadM (K5.out.drew.past hw') rfl)
  refine Hb.call (f := 16) (args := #[mv m1 A1 c1]) 3 24 rfl ?_ (run_callf Tryd.func16 (by kernel_rfl) (by kernel_rfl) (by simp only [List.map_toArray, List.map_cons, List.map_nil]; rfl))
  refine (KR.out w5.drew A1 c1 R5.out.drew).mono ?_
  rintro y w6 ⟨A6, c6, rfl, hown, b6⟩
  have Q6 := Lib.hid (Rd.of_own hown)
  have B6 := Lib.hid (show Below w5.heap.size w5 w6 from (Below.refl _ _).drew.trans b6)
  refine Hb.back b6 b6.size ?_
  refine Hb.take (v := .string (strOfNums E)) 4 25 rfl ?_ (fun w' hw' => by exact run_toStrOp 5 rfl (Q6.out.below hw') Tryd.underlying29 Tryd.underlying5 Tryd.underlying9)
  refine Hb.take (v := .bool false) 5 26 rfl ?_ (fun w' hw' => by exact run_strNe rfl rfl (by simp))
  refine Hb.done ?_
-- END
  have BL6 := Lib.hid (BL5.out.trans (B6.out.mono BL5.out.size))
  have K6 := Lib.hid (K5.out.past B6.out)
  have R6 := Lib.hid ((R5.out.past B6.out).tight)
  have S6 := Lib.hid ((S5.out.past B6.out).tight)
  clear K5 R5 S5 BL5 B6 KR
  cases hm : PMsg.may m1
  · have hN0 : N = 0 := by rw [← HN.out, HNO.out hm]; rfl
    subst hN0
    go_wp2_with ((with_reducible show wpList _ _ _ ((⟨some 30, Op.load _ _, _, _, _, _⟩ : Oper) :: _) _ _); go_must (refine wpList_load_row rfl 24 (.tmp 4) rfl w.heap.size rfl 24 #[.int .i64 m1.kind, .int .i64 m1.fr, .int .i64 m1.dst, .int .i64 m1.boot, .int .i64 m1.view, .int .i64 m1.last, .int .i64 m1.mem, .int .i64 m1.pos, .slice A1 m1.es.length c1, .int .i64 m1.com, .int .i64 m1.num, .int .i64 m1.clk, .bool m1.yes] (0, 0) _ K6.out Tryd.underlying24 rfl (by kernel_rfl) ?_))
    refine (rMayM_c w6 m1 A1 c1 R6.out).mono ?_
    rw [hm]
    rintro y w7 ⟨rfl, b7⟩
    have BL7 := Lib.hid (BL6.out.trans (b7.mono BL6.out.size))
    clear b7 hm
    go_wp2_with fail
    go_ret
    exact ⟨rfl, BL7.out⟩
  have hNp : 0 < N := HPOS.out hm
  have HEACH := Lib.hid (HEACH.out hm)
  have HD := Lib.hid (HDE.out hm)
  clear hm HNO HPOS HDE
  go_wp2_with fail
  refine (wDecode_some S6.out HEB.out (HT.out.past BL6.out) (by omega) HD.out).mono ?_
  rintro y w7 ⟨A7, c7, rfl, hr7, b7⟩
  have b8 := (Below.refl w7.heap.size w7).alloc (Nat.le_refl _) (.cells #[.int .i64 m1.kind, .int .i64 m1.fr, .int .i64 m1.dst, .int .i64 m1.boot, .int .i64 m1.view, .int .i64 m1.last, .int .i64 m1.mem, .int .i64 m1.pos, .slice A7 m1.es.length c7, .int .i64 m1.com, .int .i64 m1.num, .int .i64 m1.clk, .bool m1.yes] 24)
  have BL8 := Lib.hid ((BL6.out.trans (b7.mono BL6.out.size)).trans (b8.mono (Nat.le_trans BL6.out.size b7.size)))
  have K8 := Lib.hid ((K6.out.past b7).past b8)
  have R8 := Lib.hid (((R6.out.past b7).past b8).tight)
  have S8 := Lib.hid (((S6.out.past b7).past b8).tight)
  have T8 := Lib.hid ((hr7.past b8).tight)
  have X8 := Lib.hid (show Blk (w7.alloc (.cells #[.int .i64 m1.kind, .int .i64 m1.fr, .int .i64 m1.dst, .int .i64 m1.boot, .int .i64 m1.view, .int .i64 m1.last, .int .i64 m1.mem, .int .i64 m1.pos, .slice A7 m1.es.length c7, .int .i64 m1.com, .int .i64 m1.num, .int .i64 m1.clk, .bool m1.yes] 24)) w7.heap.size 24 (mcs m1 A7 c7) from Blk.new w7 #[.int .i64 m1.kind, .int .i64 m1.fr, .int .i64 m1.dst, .int .i64 m1.boot, .int .i64 m1.view, .int .i64 m1.last, .int .i64 m1.mem, .int .i64 m1.pos, .slice A7 m1.es.length c7, .int .i64 m1.com, .int .i64 m1.num, .int .i64 m1.clk, .bool m1.yes] 24)
  have HG7 := Lib.hid (show w.heap.size ≤ w7.heap.size from Nat.le_trans BL6.out.size b7.size)
  clear b7 b8 hr7 K6 R6 S6 BL6
  go_wp2_with (first | ((with_reducible show wpList _ _ _ ((⟨some 41, Op.load _ _, _, _, _, _⟩ : Oper) :: _) _ _); go_must (refine wpList_unguard rfl ?_; refine wpList_load_row rfl 24 (.tmp 4) rfl w.heap.size rfl 24 #[.int .i64 m1.kind, .int .i64 m1.fr, .int .i64 m1.dst, .int .i64 m1.boot, .int .i64 m1.view, .int .i64 m1.last, .int .i64 m1.mem, .int .i64 m1.pos, .slice A1 m1.es.length c1, .int .i64 m1.com, .int .i64 m1.num, .int .i64 m1.clk, .bool m1.yes] (0, 0) _ K8.out Tryd.underlying24 rfl (by kernel_rfl) ?_)) | ((with_reducible show wpList _ _ _ ((⟨some 42, Op.load _ _, _, _, _, _⟩ : Oper) :: _) _ _); go_must (refine wpList_unguard rfl ?_; refine wpList_load_row rfl 24 (.tmp 11) rfl w7.heap.size rfl 24 #[.int .i64 m1.kind, .int .i64 m1.fr, .int .i64 m1.dst, .int .i64 m1.boot, .int .i64 m1.view, .int .i64 m1.last, .int .i64 m1.mem, .int .i64 m1.pos, .slice A7 m1.es.length c7, .int .i64 m1.com, .int .i64 m1.num, .int .i64 m1.clk, .bool m1.yes] (0, 0) _ X8.out Tryd.underlying24 rfl (by kernel_rfl) ?_)))
  generalize w7.alloc (.cells #[.int .i64 m1.kind, .int .i64 m1.fr, .int .i64 m1.dst, .int .i64 m1.boot, .int .i64 m1.view, .int .i64 m1.last, .int .i64 m1.mem, .int .i64 m1.pos, .slice A7 m1.es.length c7, .int .i64 m1.com, .int .i64 m1.num, .int .i64 m1.clk, .bool m1.yes] 24) = w8 at *
  generalize w7.heap.size = g7 at *
  refine (rEqM_c w8 m1 m1 A1 A7 c1 c7 R8.out T8.out).mono ?_
  rw [PMsg.eqM_refl]
  rintro y w9 ⟨rfl, b9⟩
  have BL9 := Lib.hid (BL8.out.trans (b9.mono BL8.out.size))
  have X9 := Lib.hid (X8.out.past b9)
  have S9 := Lib.hid ((S8.out.past b9).tight)
  clear b9 K8 R8 S8 T8 X8 BL8
  rcases Int.lt_or_le (N : Int) cut with hcN | hcN
  · skip
    have BL10 := BL9
    have X10 := X9
    have S10 := S9
    clear BL9 X9 S9
    generalize w9 = w10 at *
    go_wp2_with (at_builtin; go_must (refine wpList_app rfl (.const (.slice none 0 0)) (.tmp 64) _ rfl w10.heap.size 5 _ 1 1 Tryd.underlying29 byte_info rfl (by omega) _ 0 [] rfl (World.ownsRow_nil _ _ _ _) _ A5 c5 N (bs E) rfl S10.out (bs_one _) ?c1 ?c2 (Nat.le_refl _) ?_))
    case c1 => unfold maxLen; omega
    case c2 => omega
    intro A11 c11 w11 hown11 hgrow11 hb11
    have O11 := Lib.hid (show w11.ownsRow w10.heap.size 5 1 (.slice A11 N c11) N (bs E) by simpa using hown11)
    clear hown11 hgrow11
    have hs11 := hb11.size
    go_wp2_with (at_builtin; go_must (refine wpList_pushes rfl (.tmp 65) (.tmp 67) _ rfl w10.heap.size 5 _ 1 1 1 Tryd.underlying29 byte_info rfl (by omega) rfl (by simp [maxLen]) A11 c11 N (bs E) rfl O11.out rfl ?d1 ?d2 ?d3 ?d4 ?_))
    case d1 => rfl
    case d2 => unfold maxLen; omega
    case d3 => omega
    case d4 => omega
    intro A13 c13 w13 hown13 hgrow13 hb13
    have R13 := Lib.hid (show Rd w13 w13.heap.size A13 c13 1 (N + 1) (bs (E ++ [(x : Int)])) by rw [bs_append]; exact Rd.of_own hown13)
    have HB13 := Lib.hid (show isB (E ++ [(x : Int)]) from HEB.out.append (by intro y hy; simp at hy; subst hy; exact ⟨hx0, hx1⟩))
    have b13 := hb11.trans hb13
    have BL13 := Lib.hid (BL10.out.trans (b13.mono BL10.out.size))
    have X13 := Lib.hid (X10.out.past b13)
    have S13 := Lib.hid ((S10.out.past b13).tight)
    clear hown13 hgrow13 hb13 hb11 hs11 b13 O11 X10 S10 BL10
    go_wp2_with fail
    refine (tellsM_c w13 _ A13 c13 (N + 1) _ R13.out HB13.out (HT.out.past BL13.out) (by omega)).mono ?_
    rintro y w14 ⟨rfl, b14⟩
    have BL14 := Lib.hid (BL13.out.trans (b14.mono BL13.out.size))
    have X14 := Lib.hid (X13.out.past b14)
    have S14 := Lib.hid ((S13.out.past b14).tight)
    clear b14 R13 HB13 X13 S13 BL13
    by_cases hneg : a < 0
    · go_wp2_with fail
      go_ret
      exact ⟨rfl, BL14.out⟩
    obtain ⟨a, rfl⟩ := Int.eq_ofNat_of_zero_le (show 0 ≤ a by omega)
    by_cases hx00 : x = 0
    · subst hx00
      go_wp2_with fail
      go_ret
      exact ⟨rfl, BL14.out⟩
    have hxne : ((x : Int) == 0) = false := by simp; omega
    go_wp2_with (at_builtin; go_must (refine wpList_app rfl (.const (.slice none 0 0)) (.tmp 77) _ rfl w14.heap.size 5 _ 1 1 Tryd.underlying29 byte_info rfl (by omega) _ 0 [] rfl (World.ownsRow_nil _ _ _ _) _ A5 c5 N (bs E) rfl S14.out (bs_one _) ?c1 ?c2 (Nat.le_refl _) ?_))
    case c1 => unfold maxLen; omega
    case c2 => omega
    intro A15 c15 w15 hown15 hgrow15 hb15
    have hown8 : w15.ownsRow w14.heap.size 5 1 (.slice A15 N c15) N (bs E) := by simpa using hown15
    clear hown15 hgrow15
    obtain ⟨g, rfl, hg1, hg2⟩ := own_some hown8 (by omega)
    have hj : a % N < N := Nat.mod_lt _ (by omega)
    have HJ := Lib.hid (show (a : Int) % (N : Int) = ((a % N : Nat) : Int) by omega)
    generalize a % N = j at *
    obtain ⟨u, hu⟩ : ∃ u, E[j]? = some u := ⟨_, List.getElem?_eq_getElem (by rw [HN.out]; exact hj)⟩
    have hub := HEB.out u (List.mem_of_getElem? hu)
    have hcg : w15.cell? ⟨g, j, none⟩ = some (.int .u8 u) := by
      rw [hown8.cellAt j (by omega), bs, List.getElem?_map, hu]; rfl
    have hfz : w15.frozen? ⟨g, j, none⟩ = false := hown8.frozenAt j
    have hst := hown8.stored j (.int .u8 (u.toNat ^^^ x : Nat))
    have hnext : (bs E).set j (.int .u8 (u.toNat ^^^ x : Nat)) = bs (PCrc.lay E [(x : Int)] j) := by
      rw [bs, ← List.map_set, PCrc.lay_one _ j u x hu]; rfl
    rw [hnext] at hst
    obtain ⟨u, rfl⟩ := Int.eq_ofNat_of_zero_le hub.1
    simp only [Int.toNat_natCast] at hst
    have e1 := u8_xor_nat u x (by omega) (by omega)
    have HDN := Lib.hid (HEACH.out (x : Int) j ⟨hx0, hx1⟩ hj (by omega))
    have HDB := Lib.hid (show isB (PCrc.lay E [(x : Int)] j) from PCrc.lay_byte j HEB.out (by intro y hy; simp at hy; subst hy; exact ⟨hx0, hx1⟩))
    have RD := Lib.hid (Rd.of_own hst.1)
    have G15 := grown_set w15 g j (.int .u8 (u ^^^ x : Nat))
    have hX14 := X14.out.lt
    have X15 := Lib.hid ((X14.out.past hb15).far G15 (by omega))
    have BL15 := Lib.hid ((BL14.out.trans (hb15.mono BL14.out.size)).trans ((grown_below G15 hg1 hb15.size).mono BL14.out.size))
    clear hnext hst hu hub hown8 hb15 G15 hX14 X14 S14 BL14 HEACH
    generalize PCrc.lay E [(x : Int)] j = D at *
    have e2 := HJ.out
    go_wp2_with fail
    clear hcg hfz e1 e2
    generalize w15.setCell ⟨g, j, none⟩ (.int .u8 (u ^^^ x : Nat)) = w16 at *
    refine (wDecode_none RD.out HDB.out (HT.out.past BL15.out) (by omega) HDN.out).mono ?_
    rintro y w17 ⟨A12, c12, rfl, b17⟩
    have BL17 := Lib.hid (BL15.out.trans (b17.mono BL15.out.size))
    have X17 := Lib.hid (X15.out.past b17)
    have X18 := Lib.hid (X17.out.row #[.int .i64 0, .int .i64 0, .int .i64 0, .int .i64 0, .int .i64 0, .int .i64 0, .int .i64 0, .int .i64 0, .slice A12 0 c12, .int .i64 0, .int .i64 0, .int .i64 0, .bool false])
    have k0 := X18.out.cell (i := 0) rfl
    have B18 := Lib.hid (grown_below (grown_row w17 g7 #[.int .i64 0, .int .i64 0, .int .i64 0, .int .i64 0, .int .i64 0, .int .i64 0, .int .i64 0, .int .i64 0, .slice A12 0 c12, .int .i64 0, .int .i64 0, .int .i64 0, .bool false]) HG7.out BL17.out.size)
    go_wp2_with ((with_reducible show wpList _ _ _ ((⟨none, Op.store 24 (.tmp 11) _, _, _, _, _⟩ : Oper) :: _) _ _); go_must (refine wpList_store_row rfl 24 (.tmp 11) (.tmp 92) rfl g7 _ rfl rfl _ _ X17.out (by kernel_rfl) (by rfl) (by kernel_rfl) ?_))
    go_ret
    exact ⟨rfl, BL17.out.trans B18.out⟩
  · skip
    obtain ⟨k, hk⟩ : ∃ k : Nat, (N : Int) - cut = k := ⟨((N : Int) - cut).toNat, by omega⟩
    have hkN : k ≤ N := by omega
    go_wp2_with (with_reducible show wpList _ _ _ ((⟨some 60, Op.slice 29 _ _ _ _, _, _, _, _⟩ : Oper) :: _) _ _
                 go_must (refine wpList_unguard rfl ?_; refine wpList_cutI rfl 29 (.tmp 55) _ _ rfl 5 _ 1 1 Tryd.underlying29 byte_info _ A5 c5 N (bs E) rfl S9.out 0 k 0 _ (.inl ⟨rfl, rfl⟩) (.inr ⟨rfl, rfl⟩) (by omega) hkN ?_))
    intro A10 c10 hr10
    rw [← bs_take] at hr10
    have HR10 := Lib.hid hr10
    have HTB := Lib.hid (show isB (E.take k) from HEB.out.take _)
    clear hr10
    go_wp2_with fail
    refine (tellsM_c w9 _ A10 c10 k (E.take k) HR10.out HTB.out (HT.out.past BL9.out) (by omega)).mono ?_
    rintro y w10 ⟨rfl, b10⟩
    have BL10 := Lib.hid (BL9.out.trans (b10.mono BL9.out.size))
    have X10 := Lib.hid (X9.out.past b10)
    have S10 := Lib.hid ((S9.out.past b10).tight)
    clear b10 HR10 HTB hk hkN X9 S9 BL9
    go_wp2_with (at_builtin; go_must (refine wpList_app rfl (.const (.slice none 0 0)) (.tmp 64) _ rfl w10.heap.size 5 _ 1 1 Tryd.underlying29 byte_info rfl (by omega) _ 0 [] rfl (World.ownsRow_nil _ _ _ _) _ A5 c5 N (bs E) rfl S10.out (bs_one _) ?c1 ?c2 (Nat.le_refl _) ?_))
    case c1 => unfold maxLen; omega
    case c2 => omega
    intro A11 c11 w11 hown11 hgrow11 hb11
    have O11 := Lib.hid (show w11.ownsRow w10.heap.size 5 1 (.slice A11 N c11) N (bs E) by simpa using hown11)
    clear hown11 hgrow11
    have hs11 := hb11.size
    go_wp2_with (at_builtin; go_must (refine wpList_pushes rfl (.tmp 65) (.tmp 67) _ rfl w10.heap.size 5 _ 1 1 1 Tryd.underlying29 byte_info rfl (by omega) rfl (by simp [maxLen]) A11 c11 N (bs E) rfl O11.out rfl ?d1 ?d2 ?d3 ?d4 ?_))
    case d1 => rfl
    case d2 => unfold maxLen; omega
    case d3 => omega
    case d4 => omega
    intro A13 c13 w13 hown13 hgrow13 hb13
    have R13 := Lib.hid (show Rd w13 w13.heap.size A13 c13 1 (N + 1) (bs (E ++ [(x : Int)])) by rw [bs_append]; exact Rd.of_own hown13)
    have HB13 := Lib.hid (show isB (E ++ [(x : Int)]) from HEB.out.append (by intro y hy; simp at hy; subst hy; exact ⟨hx0, hx1⟩))
    have b13 := hb11.trans hb13
    have BL13 := Lib.hid (BL10.out.trans (b13.mono BL10.out.size))
    have X13 := Lib.hid (X10.out.past b13)
    have S13 := Lib.hid ((S10.out.past b13).tight)
    clear hown13 hgrow13 hb13 hb11 hs11 b13 O11 X10 S10 BL10
    go_wp2_with fail
    refine (tellsM_c w13 _ A13 c13 (N + 1) _ R13.out HB13.out (HT.out.past BL13.out) (by omega)).mono ?_
    rintro y w14 ⟨rfl, b14⟩
    have BL14 := Lib.hid (BL13.out.trans (b14.mono BL13.out.size))
    have X14 := Lib.hid (X13.out.past b14)
    have S14 := Lib.hid ((S13.out.past b14).tight)
    clear b14 R13 HB13 X13 S13 BL13
    by_cases hneg : a < 0
    · go_wp2_with fail
      go_ret
      exact ⟨rfl, BL14.out⟩
    obtain ⟨a, rfl⟩ := Int.eq_ofNat_of_zero_le (show 0 ≤ a by omega)
    by_cases hx00 : x = 0
    · subst hx00
      go_wp2_with fail
      go_ret
      exact ⟨rfl, BL14.out⟩
    have hxne : ((x : Int) == 0) = false := by simp; omega
    go_wp2_with (at_builtin; go_must (refine wpList_app rfl (.const (.slice none 0 0)) (.tmp 77) _ rfl w14.heap.size 5 _ 1 1 Tryd.underlying29 byte_info rfl (by omega) _ 0 [] rfl (World.ownsRow_nil _ _ _ _) _ A5 c5 N (bs E) rfl S14.out (bs_one _) ?c1 ?c2 (Nat.le_refl _) ?_))
    case c1 => unfold maxLen; omega
    case c2 => omega
    intro A15 c15 w15 hown15 hgrow15 hb15
    have hown8 : w15.ownsRow w14.heap.size 5 1 (.slice A15 N c15) N (bs E) := by simpa using hown15
    clear hown15 hgrow15
    obtain ⟨g, rfl, hg1, hg2⟩ := own_some hown8 (by omega)
    have hj : a % N < N := Nat.mod_lt _ (by omega)
    have HJ := Lib.hid (show (a : Int) % (N : Int) = ((a % N : Nat) : Int) by omega)
    generalize a % N = j at *
    obtain ⟨u, hu⟩ : ∃ u, E[j]? = some u := ⟨_, List.getElem?_eq_getElem (by rw [HN.out]; exact hj)⟩
    have hub := HEB.out u (List.mem_of_getElem? hu)
    have hcg : w15.cell? ⟨g, j, none⟩ = some (.int .u8 u) := by
      rw [hown8.cellAt j (by omega), bs, List.getElem?_map, hu]; rfl
    have hfz : w15.frozen? ⟨g, j, none⟩ = false := hown8.frozenAt j
    have hst := hown8.stored j (.int .u8 (u.toNat ^^^ x : Nat))
    have hnext : (bs E).set j (.int .u8 (u.toNat ^^^ x : Nat)) = bs (PCrc.lay E [(x : Int)] j) := by
      rw [bs, ← List.map_set, PCrc.lay_one _ j u x hu]; rfl
    rw [hnext] at hst
    obtain ⟨u, rfl⟩ := Int.eq_ofNat_of_zero_le hub.1
    simp only [Int.toNat_natCast] at hst
    have e1 := u8_xor_nat u x (by omega) (by omega)
    have HDN := Lib.hid (HEACH.out (x : Int) j ⟨hx0, hx1⟩ hj (by omega))
    have HDB := Lib.hid (show isB (PCrc.lay E [(x : Int)] j) from PCrc.lay_byte j HEB.out (by intro y hy; simp at hy; subst hy; exact ⟨hx0, hx1⟩))
    have RD := Lib.hid (Rd.of_own hst.1)
    have G15 := grown_set w15 g j (.int .u8 (u ^^^ x : Nat))
    have hX14 := X14.out.lt
    have X15 := Lib.hid ((X14.out.past hb15).far G15 (by omega))
    have BL15 := Lib.hid ((BL14.out.trans (hb15.mono BL14.out.size)).trans ((grown_below G15 hg1 hb15.size).mono BL14.out.size))
    clear hnext hst hu hub hown8 hb15 G15 hX14 X14 S14 BL14 HEACH
    generalize PCrc.lay E [(x : Int)] j = D at *
    have e2 := HJ.out
    go_wp2_with fail
    clear hcg hfz e1 e2
    generalize w15.setCell ⟨g, j, none⟩ (.int .u8 (u ^^^ x : Nat)) = w16 at *
    refine (wDecode_none RD.out HDB.out (HT.out.past BL15.out) (by omega) HDN.out).mono ?_
    rintro y w17 ⟨A12, c12, rfl, b17⟩
    have BL17 := Lib.hid (BL15.out.trans (b17.mono BL15.out.size))
    have X17 := Lib.hid (X15.out.past b17)
    have X18 := Lib.hid (X17.out.row #[.int .i64 0, .int .i64 0, .int .i64 0, .int .i64 0, .int .i64 0, .int .i64 0, .int .i64 0, .int .i64 0, .slice A12 0 c12, .int .i64 0, .int .i64 0, .int .i64 0, .bool false])
    have k0 := X18.out.cell (i := 0) rfl
    have B18 := Lib.hid (grown_below (grown_row w17 g7 #[.int .i64 0, .int .i64 0, .int .i64 0, .int .i64 0, .int .i64 0, .int .i64 0, .int .i64 0, .int .i64 0, .slice A12 0 c12, .int .i64 0, .int .i64 0, .int .i64 0, .bool false]) HG7.out BL17.out.size)
    go_wp2_with ((with_reducible show wpList _ _ _ ((⟨none, Op.store 24 (.tmp 11) _, _, _, _, _⟩ : Oper) :: _) _ _); go_must (refine wpList_store_row rfl 24 (.tmp 11) (.tmp 92) rfl g7 _ rfl rfl _ _ X17.out (by kernel_rfl) (by rfl) (by kernel_rfl) ?_))
    go_ret
    exact ⟨rfl, BL17.out.trans B18.out⟩
end Go.Proofs.YtgcpofiecbpfbaaDoor

