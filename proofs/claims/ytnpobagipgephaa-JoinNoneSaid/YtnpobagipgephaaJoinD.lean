/- Package join: Got. -/
import Derived.Test.YtnpobagipgephaaJoinB
namespace Go.Proofs.Ytnpobagipgephaa
open Go.RowKit PJoin

set_option maxHeartbeats 4000000 in
set_option maxRecDepth 100000 in
theorem jgot_nil (w : World) : Calls Try.prog 10 #[.pointer none] w fun e w' => e = .returned (.tuple #[mv zeroM none 0, .bool false]) ∧ Below w.heap.size w w' := by
  have b0 := (Below.refl w.heap.size w).alloc (Nat.le_refl _) (.cells #[.int .i64 0, .int .i64 0, .int .i64 0, .int .i64 0, .int .i64 0, .int .i64 0, .int .i64 0, .int .i64 0, .slice none 0 0, .int .i64 0, .int .i64 0, .int .i64 0, .bool false] 30)
  have hZ : Blk (w.alloc (.cells #[.int .i64 0, .int .i64 0, .int .i64 0, .int .i64 0, .int .i64 0, .int .i64 0, .int .i64 0, .int .i64 0, .slice none 0 0, .int .i64 0, .int .i64 0, .int .i64 0, .bool false] 30)) w.heap.size 30 (mcs zeroM none 0) := Blk.new w #[.int .i64 0, .int .i64 0, .int .i64 0, .int .i64 0, .int .i64 0, .int .i64 0, .int .i64 0, .int .i64 0, .slice none 0 0, .int .i64 0, .int .i64 0, .int .i64 0, .bool false] 30
  have Z2 := Lib.hid (hZ.row #[.int .i64 0, .int .i64 0, .int .i64 0, .int .i64 0, .int .i64 0, .int .i64 0, .int .i64 0, .int .i64 0, .slice none 0 0, .int .i64 0, .int .i64 0, .int .i64 0, .bool false])
  have B2 := Lib.hid (b0.trans (grown_below (grown_row (w.alloc (.cells #[.int .i64 0, .int .i64 0, .int .i64 0, .int .i64 0, .int .i64 0, .int .i64 0, .int .i64 0, .int .i64 0, .slice none 0 0, .int .i64 0, .int .i64 0, .int .i64 0, .bool false] 30)) w.heap.size #[.int .i64 0, .int .i64 0, .int .i64 0, .int .i64 0, .int .i64 0, .int .i64 0, .int .i64 0, .int .i64 0, .slice none 0 0, .int .i64 0, .int .i64 0, .int .i64 0, .bool false]) (Nat.le_refl _) b0.size))
  go_enter Try.func10, Try.ntmps10
  go_wp2_with ((with_reducible show wpList _ _ _ ((⟨none, Op.store 30 (.tmp 2) _, _, _, _, _⟩ : Oper) :: _) _ _); go_must (refine wpList_store_row rfl 30 (.tmp 2) (.tmp 14) rfl w.heap.size _ rfl rfl _ _ hZ (by kernel_rfl) (by rfl) (by kernel_rfl) ?_))
  refine bodyPost_ret (v := .tuple #[mv zeroM none 0, .bool false]) (results_rowB (p := 2) (u := 3) rfl _ _ w.heap.size _ _ _ _ rfl rfl Z2.out Try.underlying30 rfl (by kernel_rfl)) rfl ⟨rfl, B2.out⟩
set_option maxHeartbeats 4000000 in
set_option maxRecDepth 100000 in
theorem jgot_no (w : World) (g : Nat) (F : List Nat) (me n boot pro : Int) (h : Jn w g F me n boot pro none) : Calls Try.prog 10 #[.pointer (some ⟨g, 0, none⟩)] w fun e w' => e = .returned (.tuple #[mv zeroM none 0, .bool false]) ∧ Below w.heap.size w w' := by
  obtain ⟨m0, A0, c0, hB⟩ := h.blk
  have b0 := (Below.refl w.heap.size w).alloc (Nat.le_refl _) (.cells #[.int .i64 0, .int .i64 0, .int .i64 0, .int .i64 0, .int .i64 0, .int .i64 0, .int .i64 0, .int .i64 0, .slice none 0 0, .int .i64 0, .int .i64 0, .int .i64 0, .bool false] 30)
  have hZ : Blk (w.alloc (.cells #[.int .i64 0, .int .i64 0, .int .i64 0, .int .i64 0, .int .i64 0, .int .i64 0, .int .i64 0, .int .i64 0, .slice none 0 0, .int .i64 0, .int .i64 0, .int .i64 0, .bool false] 30)) w.heap.size 30 (mcs zeroM none 0) := Blk.new w #[.int .i64 0, .int .i64 0, .int .i64 0, .int .i64 0, .int .i64 0, .int .i64 0, .int .i64 0, .int .i64 0, .slice none 0 0, .int .i64 0, .int .i64 0, .int .i64 0, .bool false] 30
  have Z2 := Lib.hid (hZ.row #[.int .i64 0, .int .i64 0, .int .i64 0, .int .i64 0, .int .i64 0, .int .i64 0, .int .i64 0, .int .i64 0, .slice none 0 0, .int .i64 0, .int .i64 0, .int .i64 0, .bool false])
  have B2 := Lib.hid (b0.trans (grown_below (grown_row (w.alloc (.cells #[.int .i64 0, .int .i64 0, .int .i64 0, .int .i64 0, .int .i64 0, .int .i64 0, .int .i64 0, .int .i64 0, .slice none 0 0, .int .i64 0, .int .i64 0, .int .i64 0, .bool false] 30)) w.heap.size #[.int .i64 0, .int .i64 0, .int .i64 0, .int .i64 0, .int .i64 0, .int .i64 0, .int .i64 0, .int .i64 0, .slice none 0 0, .int .i64 0, .int .i64 0, .int .i64 0, .bool false]) (Nat.le_refl _) b0.size))
  obtain ⟨-, -, -, -, d4⟩ := (hB.alloc (.cells #[.int .i64 0, .int .i64 0, .int .i64 0, .int .i64 0, .int .i64 0, .int .i64 0, .int .i64 0, .int .i64 0, .slice none 0 0, .int .i64 0, .int .i64 0, .int .i64 0, .bool false] 30)).join
  clear h hB
  go_enter Try.func10, Try.ntmps10
  go_wp2_with ((with_reducible show wpList _ _ _ ((⟨none, Op.store 30 (.tmp 2) _, _, _, _, _⟩ : Oper) :: _) _ _); go_must (refine wpList_store_row rfl 30 (.tmp 2) (.tmp 14) rfl w.heap.size _ rfl rfl _ _ hZ (by kernel_rfl) (by rfl) (by kernel_rfl) ?_))
  refine bodyPost_ret (v := .tuple #[mv zeroM none 0, .bool false]) (results_rowB (p := 2) (u := 3) rfl _ _ w.heap.size _ _ _ _ rfl rfl Z2.out Try.underlying30 rfl (by kernel_rfl)) rfl ⟨rfl, B2.out⟩
set_option maxHeartbeats 4000000 in
set_option maxRecDepth 100000 in
theorem jgot_yes (w : World) (g : Nat) (F : List Nat) (me n boot pro : Int) (o : Msg) (h : Jn w g F me n boot pro (some o)) : Calls Try.prog 10 #[.pointer (some ⟨g, 0, none⟩)] w fun e w' => ∃ A' c', e = .returned (.tuple #[mv o A' c', .bool true]) ∧ w'.ownsRow w.heap.size 47 7 (.slice A' o.es.length c') o.es.length (els o.es) ∧ Below w.heap.size w w' := by
  have hlen : o.es.length ≤ 60 := h.le
  obtain ⟨A0, c0, hB, hO, -⟩ := h.ex
  have hB : Blk w g 43 (jcs me n boot pro o A0 c0 true) := hB
  have hO : Ow w 0 47 7 A0 o.es.length c0 (els o.es) := hO
  have b0 := (Below.refl w.heap.size w).alloc (Nat.le_refl _) (.cells #[.int .i64 0, .int .i64 0, .int .i64 0, .int .i64 0, .int .i64 0, .int .i64 0, .int .i64 0, .int .i64 0, .slice none 0 0, .int .i64 0, .int .i64 0, .int .i64 0, .bool false] 30)
  have e1 : (w.alloc (.cells #[.int .i64 0, .int .i64 0, .int .i64 0, .int .i64 0, .int .i64 0, .int .i64 0, .int .i64 0, .int .i64 0, .slice none 0 0, .int .i64 0, .int .i64 0, .int .i64 0, .bool false] 30)).heap.size = w.heap.size + 1 := by simp
  have b1 := b0.alloc (by rw [e1]; omega) (.cells #[.int .i64 0, .int .i64 0, .int .i64 0, .int .i64 0, .int .i64 0, .int .i64 0, .int .i64 0, .int .i64 0, .slice none 0 0, .int .i64 0, .int .i64 0, .int .i64 0, .bool false] 30)
  have hK1 : Blk (w.alloc (.cells #[.int .i64 0, .int .i64 0, .int .i64 0, .int .i64 0, .int .i64 0, .int .i64 0, .int .i64 0, .int .i64 0, .slice none 0 0, .int .i64 0, .int .i64 0, .int .i64 0, .bool false] 30)) w.heap.size 30 (mcs zeroM none 0) := Blk.new w #[.int .i64 0, .int .i64 0, .int .i64 0, .int .i64 0, .int .i64 0, .int .i64 0, .int .i64 0, .int .i64 0, .slice none 0 0, .int .i64 0, .int .i64 0, .int .i64 0, .bool false] 30
  have hK2 : Blk ((w.alloc (.cells #[.int .i64 0, .int .i64 0, .int .i64 0, .int .i64 0, .int .i64 0, .int .i64 0, .int .i64 0, .int .i64 0, .slice none 0 0, .int .i64 0, .int .i64 0, .int .i64 0, .bool false] 30)).alloc (.cells #[.int .i64 0, .int .i64 0, .int .i64 0, .int .i64 0, .int .i64 0, .int .i64 0, .int .i64 0, .int .i64 0, .slice none 0 0, .int .i64 0, .int .i64 0, .int .i64 0, .bool false] 30)) (w.heap.size + 1) 30 (mcs zeroM none 0) := by
    have := Blk.new (w.alloc (.cells #[.int .i64 0, .int .i64 0, .int .i64 0, .int .i64 0, .int .i64 0, .int .i64 0, .int .i64 0, .int .i64 0, .slice none 0 0, .int .i64 0, .int .i64 0, .int .i64 0, .bool false] 30)) #[.int .i64 0, .int .i64 0, .int .i64 0, .int .i64 0, .int .i64 0, .int .i64 0, .int .i64 0, .int .i64 0, .slice none 0 0, .int .i64 0, .int .i64 0, .int .i64 0, .bool false] 30
    rw [e1] at this
    exact this
  have K2 := Lib.hid hK2
  have K3 := Lib.hid (show Blk (((w.alloc (.cells #[.int .i64 0, .int .i64 0, .int .i64 0, .int .i64 0, .int .i64 0, .int .i64 0, .int .i64 0, .int .i64 0, .slice none 0 0, .int .i64 0, .int .i64 0, .int .i64 0, .bool false] 30)).alloc (.cells #[.int .i64 0, .int .i64 0, .int .i64 0, .int .i64 0, .int .i64 0, .int .i64 0, .int .i64 0, .int .i64 0, .slice none 0 0, .int .i64 0, .int .i64 0, .int .i64 0, .bool false] 30)).setRow (w.heap.size + 1) #[.int .i64 o.kind, .int .i64 o.fr, .int .i64 o.dst, .int .i64 o.boot, .int .i64 o.view, .int .i64 o.last, .int .i64 o.mem, .int .i64 o.pos, .slice A0 o.es.length c0, .int .i64 o.com, .int .i64 o.num, .int .i64 o.clk, .bool o.yes]) (w.heap.size + 1) 30 (mcs o A0 c0) from hK2.row #[.int .i64 o.kind, .int .i64 o.fr, .int .i64 o.dst, .int .i64 o.boot, .int .i64 o.view, .int .i64 o.last, .int .i64 o.mem, .int .i64 o.pos, .slice A0 o.es.length c0, .int .i64 o.com, .int .i64 o.num, .int .i64 o.clk, .bool o.yes])
  have B3 := Lib.hid (b1.trans (grown_below (grown_row ((w.alloc (.cells #[.int .i64 0, .int .i64 0, .int .i64 0, .int .i64 0, .int .i64 0, .int .i64 0, .int .i64 0, .int .i64 0, .slice none 0 0, .int .i64 0, .int .i64 0, .int .i64 0, .bool false] 30)).alloc (.cells #[.int .i64 0, .int .i64 0, .int .i64 0, .int .i64 0, .int .i64 0, .int .i64 0, .int .i64 0, .int .i64 0, .slice none 0 0, .int .i64 0, .int .i64 0, .int .i64 0, .bool false] 30)) (w.heap.size + 1) #[.int .i64 o.kind, .int .i64 o.fr, .int .i64 o.dst, .int .i64 o.boot, .int .i64 o.view, .int .i64 o.last, .int .i64 o.mem, .int .i64 o.pos, .slice A0 o.es.length c0, .int .i64 o.com, .int .i64 o.num, .int .i64 o.clk, .bool o.yes]) (by omega) b1.size))
  have t3 : Touch [w.heap.size + 1] ((w.alloc (.cells #[.int .i64 0, .int .i64 0, .int .i64 0, .int .i64 0, .int .i64 0, .int .i64 0, .int .i64 0, .int .i64 0, .slice none 0 0, .int .i64 0, .int .i64 0, .int .i64 0, .bool false] 30)).alloc (.cells #[.int .i64 0, .int .i64 0, .int .i64 0, .int .i64 0, .int .i64 0, .int .i64 0, .int .i64 0, .int .i64 0, .slice none 0 0, .int .i64 0, .int .i64 0, .int .i64 0, .bool false] 30)) (((w.alloc (.cells #[.int .i64 0, .int .i64 0, .int .i64 0, .int .i64 0, .int .i64 0, .int .i64 0, .int .i64 0, .int .i64 0, .slice none 0 0, .int .i64 0, .int .i64 0, .int .i64 0, .bool false] 30)).alloc (.cells #[.int .i64 0, .int .i64 0, .int .i64 0, .int .i64 0, .int .i64 0, .int .i64 0, .int .i64 0, .int .i64 0, .slice none 0 0, .int .i64 0, .int .i64 0, .int .i64 0, .bool false] 30)).setRow (w.heap.size + 1) #[.int .i64 o.kind, .int .i64 o.fr, .int .i64 o.dst, .int .i64 o.boot, .int .i64 o.view, .int .i64 o.last, .int .i64 o.mem, .int .i64 o.pos, .slice A0 o.es.length c0, .int .i64 o.com, .int .i64 o.num, .int .i64 o.clk, .bool o.yes]) := .of_grown (grown_row _ _ _)
  have J1 := Lib.hid (((hK1.alloc (.cells #[.int .i64 0, .int .i64 0, .int .i64 0, .int .i64 0, .int .i64 0, .int .i64 0, .int .i64 0, .int .i64 0, .slice none 0 0, .int .i64 0, .int .i64 0, .int .i64 0, .bool false] 30)).touch t3 (by simp)))
  have O3 := Lib.hid ((((hO.past b1).touch t3 (fun s hs => by rw [List.mem_singleton.1 hs]; exact (hO.past b1).ne hK2 (by decide)))).rd)
  have f8 := K3.out.cell (i := 8) rfl
  have TW := Lib.hid ((hB.alloc (.cells #[.int .i64 0, .int .i64 0, .int .i64 0, .int .i64 0, .int .i64 0, .int .i64 0, .int .i64 0, .int .i64 0, .slice none 0 0, .int .i64 0, .int .i64 0, .int .i64 0, .bool false] 30)).word)
  obtain ⟨-, -, -, -, d4⟩ := (hB.alloc (.cells #[.int .i64 0, .int .i64 0, .int .i64 0, .int .i64 0, .int .i64 0, .int .i64 0, .int .i64 0, .int .i64 0, .slice none 0 0, .int .i64 0, .int .i64 0, .int .i64 0, .bool false] 30)).join
  clear h hB hO hK1 hK2 b0 b1 t3 e1
  go_enter Try.func10, Try.ntmps10
  go_wp2_with (first | ((with_reducible show wpList _ _ _ ((⟨some 18, Op.load _ _, _, _, _, _⟩ : Oper) :: _) _ _); go_must (refine wpList_load_mid rfl 30 (.tmp 17) rfl g 4 rfl [.int .i64 o.kind, .int .i64 o.fr, .int .i64 o.dst, .int .i64 o.boot, .int .i64 o.view, .int .i64 o.last, .int .i64 o.mem, .int .i64 o.pos, .slice A0 o.es.length c0, .int .i64 o.com, .int .i64 o.num, .int .i64 o.clk, .bool o.yes] _ TW.out Try.underlying30 rfl (by kernel_rfl) ?_)) | ((with_reducible show wpList _ _ _ ((⟨none, Op.store 30 (.tmp 4) _, _, _, _, _⟩ : Oper) :: _) _ _); go_must (refine wpList_store_row rfl 30 (.tmp 4) (.tmp 18) rfl (w.heap.size + 1) _ rfl rfl _ _ K2.out (by kernel_rfl) (by rfl) (by kernel_rfl) ?_)))
  refine (cloneE_c _ _ A0 c0 o.es.length o.es O3.out (by omega)).mono ?_
  rintro e w4 ⟨A', c', rfl, own, b4⟩
  have B4 := Lib.hid (B3.out.trans (b4.mono B3.out.size))
  have K4 := K3.out.past b4
  have J4 := J1.out.past b4
  have O4 := Lib.hid (own_base own B3.out.size)
  clear K2 K3 J1 O3 b4 own f8 TW d4
  have f8 := K4.cell (i := 8) rfl
  have z8 := K4.free 8
  have K5 := Lib.hid (show Blk (w4.setCell ⟨w.heap.size + 1, 8, none⟩ (.slice A' o.es.length c')) (w.heap.size + 1) 30 (mcs o A' c') from K4.set 8 _)
  have t5 : Touch [w.heap.size + 1] w4 (w4.setCell ⟨w.heap.size + 1, 8, none⟩ (.slice A' o.es.length c')) := .of_grown (grown_set w4 _ 8 _)
  have J5 := J4.touch t5 (by simp)
  have J6 := Lib.hid (show Blk ((w4.setCell ⟨w.heap.size + 1, 8, none⟩ (.slice A' o.es.length c')).setRow w.heap.size #[.int .i64 o.kind, .int .i64 o.fr, .int .i64 o.dst, .int .i64 o.boot, .int .i64 o.view, .int .i64 o.last, .int .i64 o.mem, .int .i64 o.pos, .slice A' o.es.length c', .int .i64 o.com, .int .i64 o.num, .int .i64 o.clk, .bool o.yes]) w.heap.size 30 (mcs o A' c') from J5.row #[.int .i64 o.kind, .int .i64 o.fr, .int .i64 o.dst, .int .i64 o.boot, .int .i64 o.view, .int .i64 o.last, .int .i64 o.mem, .int .i64 o.pos, .slice A' o.es.length c', .int .i64 o.com, .int .i64 o.num, .int .i64 o.clk, .bool o.yes])
  have t6 : Touch [w.heap.size] (w4.setCell ⟨w.heap.size + 1, 8, none⟩ (.slice A' o.es.length c')) ((w4.setCell ⟨w.heap.size + 1, 8, none⟩ (.slice A' o.es.length c')).setRow w.heap.size #[.int .i64 o.kind, .int .i64 o.fr, .int .i64 o.dst, .int .i64 o.boot, .int .i64 o.view, .int .i64 o.last, .int .i64 o.mem, .int .i64 o.pos, .slice A' o.es.length c', .int .i64 o.com, .int .i64 o.num, .int .i64 o.clk, .bool o.yes]) := .of_grown (grown_row _ _ _)
  have T6 : Touch [w.heap.size + 1, w.heap.size] w4 ((w4.setCell ⟨w.heap.size + 1, 8, none⟩ (.slice A' o.es.length c')).setRow w.heap.size #[.int .i64 o.kind, .int .i64 o.fr, .int .i64 o.dst, .int .i64 o.boot, .int .i64 o.view, .int .i64 o.last, .int .i64 o.mem, .int .i64 o.pos, .slice A' o.es.length c', .int .i64 o.com, .int .i64 o.num, .int .i64 o.clk, .bool o.yes]) := (t5.wide (by simp)).trans (t6.wide (by simp))
  have B6 := Lib.hid (B4.out.trans (T6.below (B := w.heap.size) (by simp) B4.out.size))
  have O6 := Lib.hid (own_touch O4.out T6 (fun s hs ys hy => by
    simp only [List.mem_cons, List.not_mem_nil, or_false] at hs
    rcases hs with rfl | rfl
    · exact K4.ne hy (by decide) rfl
    · exact J4.ne hy (by decide) rfl))
  have J5 := Lib.hid J5
  clear t5 t6 T6 K4 J4 O4 B3 B4
  go_wp2_with (first | ((with_reducible show wpList _ _ _ ((⟨some 23, Op.load _ _, _, _, _, _⟩ : Oper) :: _) _ _); go_must (refine wpList_load_row rfl 30 (.tmp 4) rfl (w.heap.size + 1) rfl 30 #[.int .i64 o.kind, .int .i64 o.fr, .int .i64 o.dst, .int .i64 o.boot, .int .i64 o.view, .int .i64 o.last, .int .i64 o.mem, .int .i64 o.pos, .slice A' o.es.length c', .int .i64 o.com, .int .i64 o.num, .int .i64 o.clk, .bool o.yes] (0, 0) _ K5.out Try.underlying30 rfl (by kernel_rfl) ?_)) | ((with_reducible show wpList _ _ _ ((⟨none, Op.store 30 (.tmp 2) _, _, _, _, _⟩ : Oper) :: _) _ _); go_must (refine wpList_store_row rfl 30 (.tmp 2) (.tmp 23) rfl w.heap.size _ rfl rfl _ _ J5.out (by kernel_rfl) (by rfl) (by kernel_rfl) ?_)))
  refine bodyPost_ret (v := .tuple #[mv o A' c', .bool true]) (results_rowB (p := 2) (u := 3) rfl _ _ w.heap.size _ _ _ _ rfl rfl J6.out Try.underlying30 rfl (by kernel_rfl)) rfl ⟨A', c', rfl, O6.out, B6.out⟩
end Go.Proofs.Ytnpobagipgephaa
