/- Package join: Hear, Got. -/
import Derived.Test.YtnpobagipgephaaJoinA
import Derived.Test.YtnpobagipgephaaJoinW
import Derived.Deep.MidRow
namespace Go.Proofs.Ytnpobagipgephaa
open Go.RowKit PJoin

section
variable (w : World) (g : Nat) (F : List Nat) (me n boot pro : Int) (m : Msg) (A : Option Addr) (c : Nat) (R : Rd w w.heap.size A c 7 m.es.length (els m.es)) (hv : -9223372036854775808 ≤ m.view ∧ m.view ≤ 9223372036854775807) (hm : -9223372036854775808 ≤ m.mem ∧ m.mem ≤ 9223372036854775807)
include R
set_option maxHeartbeats 4000000 in
set_option maxRecDepth 100000 in
theorem jhear_got (o : Msg) (h : Jn w g F me n boot pro (some o)) : Calls Try.prog 11 #[.pointer (some ⟨g, 0, none⟩), mv m A c] w fun e w' => e = .returned (.bool false) ∧ Below w.heap.size w w' := by
  obtain ⟨m0, A0, c0, hB⟩ := h.blk
  have B1 := Lib.hid ((Below.refl w.heap.size w).alloc (Nat.le_refl _) (.cells #[.int .i64 m.kind, .int .i64 m.fr, .int .i64 m.dst, .int .i64 m.boot, .int .i64 m.view, .int .i64 m.last, .int .i64 m.mem, .int .i64 m.pos, .slice A m.es.length c, .int .i64 m.com, .int .i64 m.num, .int .i64 m.clk, .bool m.yes] 30))
  have J1 := Lib.hid (hB.alloc (.cells #[.int .i64 m.kind, .int .i64 m.fr, .int .i64 m.dst, .int .i64 m.boot, .int .i64 m.view, .int .i64 m.last, .int .i64 m.mem, .int .i64 m.pos, .slice A m.es.length c, .int .i64 m.com, .int .i64 m.num, .int .i64 m.clk, .bool m.yes] 30))
  have K1 := Lib.hid (show Blk (w.alloc (.cells #[.int .i64 m.kind, .int .i64 m.fr, .int .i64 m.dst, .int .i64 m.boot, .int .i64 m.view, .int .i64 m.last, .int .i64 m.mem, .int .i64 m.pos, .slice A m.es.length c, .int .i64 m.com, .int .i64 m.num, .int .i64 m.clk, .bool m.yes] 30)) w.heap.size 30 (mcs m A c) from Blk.new w #[.int .i64 m.kind, .int .i64 m.fr, .int .i64 m.dst, .int .i64 m.boot, .int .i64 m.view, .int .i64 m.last, .int .i64 m.mem, .int .i64 m.pos, .slice A m.es.length c, .int .i64 m.com, .int .i64 m.num, .int .i64 m.clk, .bool m.yes] 30)
  have R1 := Lib.hid ((R.alloc (.cells #[.int .i64 m.kind, .int .i64 m.fr, .int .i64 m.dst, .int .i64 m.boot, .int .i64 m.view, .int .i64 m.last, .int .i64 m.mem, .int .i64 m.pos, .slice A m.es.length c, .int .i64 m.com, .int .i64 m.num, .int .i64 m.clk, .bool m.yes] 30)).tight)
  obtain ⟨d0, d1, d2, d3, d4⟩ := J1.out.join
  clear hB h R K1 J1 R1 d0 d1 d2 d3
  show Calls _ _ #[_, .agg #[.int .i64 m.kind, .int .i64 m.fr, .int .i64 m.dst, .int .i64 m.boot, .int .i64 m.view, .int .i64 m.last, .int .i64 m.mem, .int .i64 m.pos, .slice A m.es.length c, .int .i64 m.com, .int .i64 m.num, .int .i64 m.clk, .bool m.yes]] _ _
  go_enter Try.func11, Try.ntmps11
  go_wp2_with fail
  go_ret
  exact ⟨rfl, B1.out⟩
set_option maxHeartbeats 4000000 in
set_option maxRecDepth 100000 in
theorem jhear_ans (h : Jn w g F me n boot pro none) (h1 : isAns me boot m = false) : Calls Try.prog 11 #[.pointer (some ⟨g, 0, none⟩), mv m A c] w fun e w' => e = .returned (.bool false) ∧ Below w.heap.size w w' := by
  obtain ⟨m0, A0, c0, hB⟩ := h.blk
  have B1 := Lib.hid ((Below.refl w.heap.size w).alloc (Nat.le_refl _) (.cells #[.int .i64 m.kind, .int .i64 m.fr, .int .i64 m.dst, .int .i64 m.boot, .int .i64 m.view, .int .i64 m.last, .int .i64 m.mem, .int .i64 m.pos, .slice A m.es.length c, .int .i64 m.com, .int .i64 m.num, .int .i64 m.clk, .bool m.yes] 30))
  have J1 := Lib.hid (hB.alloc (.cells #[.int .i64 m.kind, .int .i64 m.fr, .int .i64 m.dst, .int .i64 m.boot, .int .i64 m.view, .int .i64 m.last, .int .i64 m.mem, .int .i64 m.pos, .slice A m.es.length c, .int .i64 m.com, .int .i64 m.num, .int .i64 m.clk, .bool m.yes] 30))
  have K1 := Lib.hid (show Blk (w.alloc (.cells #[.int .i64 m.kind, .int .i64 m.fr, .int .i64 m.dst, .int .i64 m.boot, .int .i64 m.view, .int .i64 m.last, .int .i64 m.mem, .int .i64 m.pos, .slice A m.es.length c, .int .i64 m.com, .int .i64 m.num, .int .i64 m.clk, .bool m.yes] 30)) w.heap.size 30 (mcs m A c) from Blk.new w #[.int .i64 m.kind, .int .i64 m.fr, .int .i64 m.dst, .int .i64 m.boot, .int .i64 m.view, .int .i64 m.last, .int .i64 m.mem, .int .i64 m.pos, .slice A m.es.length c, .int .i64 m.com, .int .i64 m.num, .int .i64 m.clk, .bool m.yes] 30)
  have R1 := Lib.hid ((R.alloc (.cells #[.int .i64 m.kind, .int .i64 m.fr, .int .i64 m.dst, .int .i64 m.boot, .int .i64 m.view, .int .i64 m.last, .int .i64 m.mem, .int .i64 m.pos, .slice A m.es.length c, .int .i64 m.com, .int .i64 m.num, .int .i64 m.clk, .bool m.yes] 30)).tight)
  obtain ⟨d0, d1, d2, d3, d4⟩ := J1.out.join
  clear hB R h
  show Calls _ _ #[_, .agg #[.int .i64 m.kind, .int .i64 m.fr, .int .i64 m.dst, .int .i64 m.boot, .int .i64 m.view, .int .i64 m.last, .int .i64 m.mem, .int .i64 m.pos, .slice A m.es.length c, .int .i64 m.com, .int .i64 m.num, .int .i64 m.clk, .bool m.yes]] _ _
  go_enter Try.func11, Try.ntmps11
  go_wp2_with ((with_reducible show wpList _ _ _ ((⟨some 15, Op.load _ _, _, _, _, _⟩ : Oper) :: _) _ _); go_must (refine wpList_unguard rfl ?_; refine wpList_load_row rfl 30 (.tmp 3) rfl w.heap.size rfl 30 #[.int .i64 m.kind, .int .i64 m.fr, .int .i64 m.dst, .int .i64 m.boot, .int .i64 m.view, .int .i64 m.last, .int .i64 m.mem, .int .i64 m.pos, .slice A m.es.length c, .int .i64 m.com, .int .i64 m.num, .int .i64 m.clk, .bool m.yes] (0, 0) _ K1.out Try.underlying30 rfl (by kernel_rfl) ?_))
  obtain ⟨k1, hk1⟩ : ∃ k, w.heap.size = k := ⟨_, rfl⟩
  rw [hk1] at K1 ⊢
  clear hk1 d0 d1 d2 d3 d4
  generalize w.alloc (.cells #[.int .i64 m.kind, .int .i64 m.fr, .int .i64 m.dst, .int .i64 m.boot, .int .i64 m.view, .int .i64 m.last, .int .i64 m.mem, .int .i64 m.pos, .slice A m.es.length c, .int .i64 m.com, .int .i64 m.num, .int .i64 m.clk, .bool m.yes] 30) = w1 at *
  refine (isAns_c w1 g me n boot pro m0 A0 c0 _ J1.out m A c).mono ?_
  rw [h1]
  rintro e w2 ⟨rfl, b2⟩
  have B2 := Lib.hid (B1.out.trans (b2.mono B1.out.size))
  have J2 := Lib.hid (J1.out.past b2)
  have K2 := Lib.hid (K1.out.past b2)
  have R2 := Lib.hid (R1.out.past b2).tight
  clear b2 B1 J1 K1 R1
  go_wp2_with fail
  go_ret
  exact ⟨rfl, B2.out⟩
include hv hm
set_option maxHeartbeats 4000000 in
set_option maxRecDepth 100000 in
theorem jhear_dec (h : Jn w g F me n boot pro none) (h1 : isAns me boot m = true) (h2 : isDec n pro m = false) : Calls Try.prog 11 #[.pointer (some ⟨g, 0, none⟩), mv m A c] w fun e w' => e = .returned (.bool false) ∧ Below w.heap.size w w' := by
  obtain ⟨m0, A0, c0, hB⟩ := h.blk
  have B1 := Lib.hid ((Below.refl w.heap.size w).alloc (Nat.le_refl _) (.cells #[.int .i64 m.kind, .int .i64 m.fr, .int .i64 m.dst, .int .i64 m.boot, .int .i64 m.view, .int .i64 m.last, .int .i64 m.mem, .int .i64 m.pos, .slice A m.es.length c, .int .i64 m.com, .int .i64 m.num, .int .i64 m.clk, .bool m.yes] 30))
  have J1 := Lib.hid (hB.alloc (.cells #[.int .i64 m.kind, .int .i64 m.fr, .int .i64 m.dst, .int .i64 m.boot, .int .i64 m.view, .int .i64 m.last, .int .i64 m.mem, .int .i64 m.pos, .slice A m.es.length c, .int .i64 m.com, .int .i64 m.num, .int .i64 m.clk, .bool m.yes] 30))
  have K1 := Lib.hid (show Blk (w.alloc (.cells #[.int .i64 m.kind, .int .i64 m.fr, .int .i64 m.dst, .int .i64 m.boot, .int .i64 m.view, .int .i64 m.last, .int .i64 m.mem, .int .i64 m.pos, .slice A m.es.length c, .int .i64 m.com, .int .i64 m.num, .int .i64 m.clk, .bool m.yes] 30)) w.heap.size 30 (mcs m A c) from Blk.new w #[.int .i64 m.kind, .int .i64 m.fr, .int .i64 m.dst, .int .i64 m.boot, .int .i64 m.view, .int .i64 m.last, .int .i64 m.mem, .int .i64 m.pos, .slice A m.es.length c, .int .i64 m.com, .int .i64 m.num, .int .i64 m.clk, .bool m.yes] 30)
  have R1 := Lib.hid ((R.alloc (.cells #[.int .i64 m.kind, .int .i64 m.fr, .int .i64 m.dst, .int .i64 m.boot, .int .i64 m.view, .int .i64 m.last, .int .i64 m.mem, .int .i64 m.pos, .slice A m.es.length c, .int .i64 m.com, .int .i64 m.num, .int .i64 m.clk, .bool m.yes] 30)).tight)
  obtain ⟨d0, d1, d2, d3, d4⟩ := J1.out.join
  clear hB R h
  show Calls _ _ #[_, .agg #[.int .i64 m.kind, .int .i64 m.fr, .int .i64 m.dst, .int .i64 m.boot, .int .i64 m.view, .int .i64 m.last, .int .i64 m.mem, .int .i64 m.pos, .slice A m.es.length c, .int .i64 m.com, .int .i64 m.num, .int .i64 m.clk, .bool m.yes]] _ _
  go_enter Try.func11, Try.ntmps11
  go_wp2_with ((with_reducible show wpList _ _ _ ((⟨some 15, Op.load _ _, _, _, _, _⟩ : Oper) :: _) _ _); go_must (refine wpList_unguard rfl ?_; refine wpList_load_row rfl 30 (.tmp 3) rfl w.heap.size rfl 30 #[.int .i64 m.kind, .int .i64 m.fr, .int .i64 m.dst, .int .i64 m.boot, .int .i64 m.view, .int .i64 m.last, .int .i64 m.mem, .int .i64 m.pos, .slice A m.es.length c, .int .i64 m.com, .int .i64 m.num, .int .i64 m.clk, .bool m.yes] (0, 0) _ K1.out Try.underlying30 rfl (by kernel_rfl) ?_))
  obtain ⟨k1, hk1⟩ : ∃ k, w.heap.size = k := ⟨_, rfl⟩
  rw [hk1] at K1 ⊢
  clear hk1 d0 d1 d2 d3 d4
  generalize w.alloc (.cells #[.int .i64 m.kind, .int .i64 m.fr, .int .i64 m.dst, .int .i64 m.boot, .int .i64 m.view, .int .i64 m.last, .int .i64 m.mem, .int .i64 m.pos, .slice A m.es.length c, .int .i64 m.com, .int .i64 m.num, .int .i64 m.clk, .bool m.yes] 30) = w1 at *
  refine (isAns_c w1 g me n boot pro m0 A0 c0 _ J1.out m A c).mono ?_
  rw [h1]
  rintro e w2 ⟨rfl, b2⟩
  have B2 := Lib.hid (B1.out.trans (b2.mono B1.out.size))
  have J2 := Lib.hid (J1.out.past b2)
  have K2 := Lib.hid (K1.out.past b2)
  have R2 := Lib.hid (R1.out.past b2).tight
  clear b2 B1 J1 K1 R1
  go_wp2_with ((with_reducible show wpList _ _ _ ((⟨some 21, Op.load _ _, _, _, _, _⟩ : Oper) :: _) _ _); go_must (refine wpList_unguard rfl ?_; refine wpList_load_row rfl 30 (.tmp 3) rfl k1 rfl 30 #[.int .i64 m.kind, .int .i64 m.fr, .int .i64 m.dst, .int .i64 m.boot, .int .i64 m.view, .int .i64 m.last, .int .i64 m.mem, .int .i64 m.pos, .slice A m.es.length c, .int .i64 m.com, .int .i64 m.num, .int .i64 m.clk, .bool m.yes] (0, 0) _ K2.out Try.underlying30 rfl (by kernel_rfl) ?_))
  refine (isDec_c w2 g me n boot pro m0 A0 c0 _ J2.out m A c hv hm).mono ?_
  rw [h2]
  rintro e w3 ⟨rfl, b3⟩
  have B3 := Lib.hid (B2.out.trans (b3.mono B2.out.size))
  have J3 := Lib.hid (J2.out.past b3)
  have K3 := Lib.hid (K2.out.past b3)
  have R3 := Lib.hid (R2.out.past b3).tight
  clear b3 B2 J2 K2 R2
  go_wp2_with fail
  go_ret
  exact ⟨rfl, B3.out⟩
set_option maxHeartbeats 4000000 in
set_option maxRecDepth 100000 in
theorem jhear_all (h : Jn w g F me n boot pro none) (h1 : isAns me boot m = true) (h2 : isDec n pro m = true) (h3 : isAll m = false) : Calls Try.prog 11 #[.pointer (some ⟨g, 0, none⟩), mv m A c] w fun e w' => e = .returned (.bool false) ∧ Below w.heap.size w w' := by
  obtain ⟨m0, A0, c0, hB⟩ := h.blk
  have B1 := Lib.hid ((Below.refl w.heap.size w).alloc (Nat.le_refl _) (.cells #[.int .i64 m.kind, .int .i64 m.fr, .int .i64 m.dst, .int .i64 m.boot, .int .i64 m.view, .int .i64 m.last, .int .i64 m.mem, .int .i64 m.pos, .slice A m.es.length c, .int .i64 m.com, .int .i64 m.num, .int .i64 m.clk, .bool m.yes] 30))
  have J1 := Lib.hid (hB.alloc (.cells #[.int .i64 m.kind, .int .i64 m.fr, .int .i64 m.dst, .int .i64 m.boot, .int .i64 m.view, .int .i64 m.last, .int .i64 m.mem, .int .i64 m.pos, .slice A m.es.length c, .int .i64 m.com, .int .i64 m.num, .int .i64 m.clk, .bool m.yes] 30))
  have K1 := Lib.hid (show Blk (w.alloc (.cells #[.int .i64 m.kind, .int .i64 m.fr, .int .i64 m.dst, .int .i64 m.boot, .int .i64 m.view, .int .i64 m.last, .int .i64 m.mem, .int .i64 m.pos, .slice A m.es.length c, .int .i64 m.com, .int .i64 m.num, .int .i64 m.clk, .bool m.yes] 30)) w.heap.size 30 (mcs m A c) from Blk.new w #[.int .i64 m.kind, .int .i64 m.fr, .int .i64 m.dst, .int .i64 m.boot, .int .i64 m.view, .int .i64 m.last, .int .i64 m.mem, .int .i64 m.pos, .slice A m.es.length c, .int .i64 m.com, .int .i64 m.num, .int .i64 m.clk, .bool m.yes] 30)
  have R1 := Lib.hid ((R.alloc (.cells #[.int .i64 m.kind, .int .i64 m.fr, .int .i64 m.dst, .int .i64 m.boot, .int .i64 m.view, .int .i64 m.last, .int .i64 m.mem, .int .i64 m.pos, .slice A m.es.length c, .int .i64 m.com, .int .i64 m.num, .int .i64 m.clk, .bool m.yes] 30)).tight)
  obtain ⟨d0, d1, d2, d3, d4⟩ := J1.out.join
  clear hB R h
  show Calls _ _ #[_, .agg #[.int .i64 m.kind, .int .i64 m.fr, .int .i64 m.dst, .int .i64 m.boot, .int .i64 m.view, .int .i64 m.last, .int .i64 m.mem, .int .i64 m.pos, .slice A m.es.length c, .int .i64 m.com, .int .i64 m.num, .int .i64 m.clk, .bool m.yes]] _ _
  go_enter Try.func11, Try.ntmps11
  go_wp2_with ((with_reducible show wpList _ _ _ ((⟨some 15, Op.load _ _, _, _, _, _⟩ : Oper) :: _) _ _); go_must (refine wpList_unguard rfl ?_; refine wpList_load_row rfl 30 (.tmp 3) rfl w.heap.size rfl 30 #[.int .i64 m.kind, .int .i64 m.fr, .int .i64 m.dst, .int .i64 m.boot, .int .i64 m.view, .int .i64 m.last, .int .i64 m.mem, .int .i64 m.pos, .slice A m.es.length c, .int .i64 m.com, .int .i64 m.num, .int .i64 m.clk, .bool m.yes] (0, 0) _ K1.out Try.underlying30 rfl (by kernel_rfl) ?_))
  obtain ⟨k1, hk1⟩ : ∃ k, w.heap.size = k := ⟨_, rfl⟩
  rw [hk1] at K1 ⊢
  clear hk1 d0 d1 d2 d3 d4
  generalize w.alloc (.cells #[.int .i64 m.kind, .int .i64 m.fr, .int .i64 m.dst, .int .i64 m.boot, .int .i64 m.view, .int .i64 m.last, .int .i64 m.mem, .int .i64 m.pos, .slice A m.es.length c, .int .i64 m.com, .int .i64 m.num, .int .i64 m.clk, .bool m.yes] 30) = w1 at *
  refine (isAns_c w1 g me n boot pro m0 A0 c0 _ J1.out m A c).mono ?_
  rw [h1]
  rintro e w2 ⟨rfl, b2⟩
  have B2 := Lib.hid (B1.out.trans (b2.mono B1.out.size))
  have J2 := Lib.hid (J1.out.past b2)
  have K2 := Lib.hid (K1.out.past b2)
  have R2 := Lib.hid (R1.out.past b2).tight
  clear b2 B1 J1 K1 R1
  go_wp2_with ((with_reducible show wpList _ _ _ ((⟨some 21, Op.load _ _, _, _, _, _⟩ : Oper) :: _) _ _); go_must (refine wpList_unguard rfl ?_; refine wpList_load_row rfl 30 (.tmp 3) rfl k1 rfl 30 #[.int .i64 m.kind, .int .i64 m.fr, .int .i64 m.dst, .int .i64 m.boot, .int .i64 m.view, .int .i64 m.last, .int .i64 m.mem, .int .i64 m.pos, .slice A m.es.length c, .int .i64 m.com, .int .i64 m.num, .int .i64 m.clk, .bool m.yes] (0, 0) _ K2.out Try.underlying30 rfl (by kernel_rfl) ?_))
  refine (isDec_c w2 g me n boot pro m0 A0 c0 _ J2.out m A c hv hm).mono ?_
  rw [h2]
  rintro e w3 ⟨rfl, b3⟩
  have B3 := Lib.hid (B2.out.trans (b3.mono B2.out.size))
  have J3 := Lib.hid (J2.out.past b3)
  have K3 := Lib.hid (K2.out.past b3)
  have R3 := Lib.hid (R2.out.past b3).tight
  clear b3 B2 J2 K2 R2
  go_wp2_with ((with_reducible show wpList _ _ _ ((⟨some 26, Op.load _ _, _, _, _, _⟩ : Oper) :: _) _ _); go_must (refine wpList_unguard rfl ?_; refine wpList_load_row rfl 30 (.tmp 3) rfl k1 rfl 30 #[.int .i64 m.kind, .int .i64 m.fr, .int .i64 m.dst, .int .i64 m.boot, .int .i64 m.view, .int .i64 m.last, .int .i64 m.mem, .int .i64 m.pos, .slice A m.es.length c, .int .i64 m.com, .int .i64 m.num, .int .i64 m.clk, .bool m.yes] (0, 0) _ K3.out Try.underlying30 rfl (by kernel_rfl) ?_))
  refine (isAll_c w3 m A c R3.out).mono ?_
  rw [h3]
  rintro e w4 ⟨rfl, b4⟩
  have B4 := Lib.hid (B3.out.trans (b4.mono B3.out.size))
  have J4 := Lib.hid (J3.out.past b4)
  have K4 := Lib.hid (K3.out.past b4)
  have R4 := Lib.hid (R3.out.past b4).tight
  clear b4 B3 J3 K3 R3
  go_wp2_with fail
  go_ret
  exact ⟨rfl, B4.out⟩
theorem jhear_no (o : Option Msg) (h : Jn w g F me n boot pro o) (hw : o.isSome = true ∨ word me n boot pro m = false) : Calls Try.prog 11 #[.pointer (some ⟨g, 0, none⟩), mv m A c] w fun e w' => e = .returned (.bool false) ∧ Below w.heap.size w w' := by
  cases o with
  | some o => exact jhear_got w g F me n boot pro m A c R o h
  | none =>
    have hw : word me n boot pro m = false := hw.elim (fun h => by cases h) id
    unfold word at hw
    cases h1 : isAns me boot m with
    | false => exact jhear_ans w g F me n boot pro m A c R h h1
    | true =>
      cases h2 : isDec n pro m with
      | false => exact jhear_dec w g F me n boot pro m A c R hv hm h h1 h2
      | true =>
        rw [h1, h2] at hw
        exact jhear_all w g F me n boot pro m A c R hv hm h h1 h2 hw
end
end Go.Proofs.Ytnpobagipgephaa
