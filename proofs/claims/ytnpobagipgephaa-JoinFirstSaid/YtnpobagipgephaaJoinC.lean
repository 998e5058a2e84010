/- Package join: Hear of a word that is taken. -/
import Derived.Test.YtnpobagipgephaaJoinB
namespace Go.Proofs.Ytnpobagipgephaa
open Go.RowKit PJoin

section
variable (w : World) (g : Nat) (F : List Nat) (me n boot pro : Int) (m : Msg) (A : Option Addr) (c : Nat) (R : Rd w w.heap.size A c 7 m.es.length (els m.es)) (hv : -9223372036854775808 ≤ m.view ∧ m.view ≤ 9223372036854775807) (hm : -9223372036854775808 ≤ m.mem ∧ m.mem ≤ 9223372036854775807)
include R hv hm
set_option maxHeartbeats 4000000 in
set_option maxRecDepth 100000 in
theorem jhear_yes (h : Jn w g F me n boot pro none) (hw : word me n boot pro m = true) : Calls Try.prog 11 #[.pointer (some ⟨g, 0, none⟩), mv m A c] w fun e w' => e = .returned (.bool true) ∧ JnW w w' g F me n boot pro (some m) := by
  unfold word at hw
  simp only [Bool.and_eq_true] at hw
  obtain ⟨h1, h2, h3⟩ := hw
  have hlen : m.es.length ≤ 60 := by have := isAll_log h3; have := PLog.log_len m.es; omega
  have HF := Lib.hid h.self
  have HX := Lib.hid h
  obtain ⟨A0, c0, hB, -, -⟩ := h.ex
  obtain ⟨m0, hm0⟩ : ∃ x, x = (none : Option Msg).getD zeroM := ⟨_, rfl⟩
  rw [← hm0] at hB
  clear hm0
  have B1 := Lib.hid ((Below.refl w.heap.size w).alloc (Nat.le_refl _) (.cells #[.int .i64 m.kind, .int .i64 m.fr, .int .i64 m.dst, .int .i64 m.boot, .int .i64 m.view, .int .i64 m.last, .int .i64 m.mem, .int .i64 m.pos, .slice A m.es.length c, .int .i64 m.com, .int .i64 m.num, .int .i64 m.clk, .bool m.yes] 30))
  have J1 := Lib.hid (hB.alloc (.cells #[.int .i64 m.kind, .int .i64 m.fr, .int .i64 m.dst, .int .i64 m.boot, .int .i64 m.view, .int .i64 m.last, .int .i64 m.mem, .int .i64 m.pos, .slice A m.es.length c, .int .i64 m.com, .int .i64 m.num, .int .i64 m.clk, .bool m.yes] 30))
  have K1 := Lib.hid (show Blk (w.alloc (.cells #[.int .i64 m.kind, .int .i64 m.fr, .int .i64 m.dst, .int .i64 m.boot, .int .i64 m.view, .int .i64 m.last, .int .i64 m.mem, .int .i64 m.pos, .slice A m.es.length c, .int .i64 m.com, .int .i64 m.num, .int .i64 m.clk, .bool m.yes] 30)) w.heap.size 30 (mcs m A c) from Blk.new w #[.int .i64 m.kind, .int .i64 m.fr, .int .i64 m.dst, .int .i64 m.boot, .int .i64 m.view, .int .i64 m.last, .int .i64 m.mem, .int .i64 m.pos, .slice A m.es.length c, .int .i64 m.com, .int .i64 m.num, .int .i64 m.clk, .bool m.yes] 30)
  have R1 := Lib.hid ((R.alloc (.cells #[.int .i64 m.kind, .int .i64 m.fr, .int .i64 m.dst, .int .i64 m.boot, .int .i64 m.view, .int .i64 m.last, .int .i64 m.mem, .int .i64 m.pos, .slice A m.es.length c, .int .i64 m.com, .int .i64 m.num, .int .i64 m.clk, .bool m.yes] 30)).tight)
  obtain ⟨d0, d1, d2, d3, d4⟩ := J1.out.join
  clear hB R h
  show Calls _ _ #[_, .agg #[.int .i64 m.kind, .int .i64 m.fr, .int .i64 m.dst, .int .i64 m.boot, .int .i64 m.view, .int .i64 m.last, .int .i64 m.mem, .int .i64 m.pos, .slice A m.es.length c, .int .i64 m.com, .int .i64 m.num, .int .i64 m.clk, .bool m.yes]] _ _
  go_enter Try.func11, Try.ntmps11
  go_wp2_with ((with_reducible show wpList _ _ _ ((⟨some 15, Op.load _ _, _, _, _, _⟩ : Oper) :: _) _ _); go_must (refine wpList_unguard rfl ?_; refine wpList_load_row rfl 30 (.tmp 3) rfl w.heap.size rfl 30 #[.int .i64 m.kind, .int .i64 m.fr, .int .i64 m.dst, .int .i64 m.boot, .int .i64 m.view, .int .i64 m.last, .int .i64 m.mem, .int .i64 m.pos, .slice A m.es.length c, .int .i64 m.com, .int .i64 m.num, .int .i64 m.clk, .bool m.yes] (0, 0) _ K1.out Try.underlying30 rfl (by kernel_rfl) ?_))
  obtain ⟨k1, hk1⟩ : ∃ k, w.heap.size = k := ⟨_, rfl⟩
  rw [hk1] at K1 ⊢
  have HK := Lib.hid (Nat.le_of_eq hk1)
  clear hk1 d0 d1 d2 d3 d4
  generalize w.alloc (.cells #[.int .i64 m.kind, .int .i64 m.fr, .int .i64 m.dst, .int .i64 m.boot, .int .i64 m.view, .int .i64 m.last, .int .i64 m.mem, .int .i64 m.pos, .slice A m.es.length c, .int .i64 m.com, .int .i64 m.num, .int .i64 m.clk, .bool m.yes] 30) = w1 at *
  refine (isAns_c w1 g me n boot pro m0 A0 c0 _ J1.out m A c).mono ?_
  rw [h1]
  rintro e w2 ⟨rfl, b2⟩
  have B2 := Lib.hid (B1.out.trans (b2.mono B1.out.size))
  have J2 := Lib.hid (J1.out.past b2)
  have K2 := Lib.hid (K1.out.past b2)
  have R2 := Lib.hid (R1.out.past b2).tight
  clear b2 B1 J1 K1 R1
  go_wp2_with ((with_reducible show wpList _ _ _ ((⟨some 21, Op.load _ _, _, _, _, _⟩ : Oper) :: _) _ _); go_must (refine wpList_unguard rfl ?_; refine wpList_load_row rfl 30 (.tmp 3) rfl k1 rfl 30 #[.int .i64 m.kind, .int .i64 m.fr, .int .i64 m.dst, .int .i64 m.boot, .int .i64 m.view, .int .i64 m.last, .int .i64 m.mem, .int .i64 m.pos, .slice A m.es.length c, .int .i64 m.com, .int .i64 m.num, .int .i64 m.clk, .bool m.yes] (0, 0) _ K2.out Try.underlying30 rfl (by kernel_rfl) ?_))
  refine (isDec_c w2 g me n boot pro m0 A0 c0 _ J2.out m A c hv hm).mono ?_
  rw [h2]
  rintro e w3 ⟨rfl, b3⟩
  have B3 := Lib.hid (B2.out.trans (b3.mono B2.out.size))
  have J3 := Lib.hid (J2.out.past b3)
  have K3 := Lib.hid (K2.out.past b3)
  have R3 := Lib.hid (R2.out.past b3).tight
  clear b3 B2 J2 K2 R2
  go_wp2_with ((with_reducible show wpList _ _ _ ((⟨some 26, Op.load _ _, _, _, _, _⟩ : Oper) :: _) _ _); go_must (refine wpList_unguard rfl ?_; refine wpList_load_row rfl 30 (.tmp 3) rfl k1 rfl 30 #[.int .i64 m.kind, .int .i64 m.fr, .int .i64 m.dst, .int .i64 m.boot, .int .i64 m.view, .int .i64 m.last, .int .i64 m.mem, .int .i64 m.pos, .slice A m.es.length c, .int .i64 m.com, .int .i64 m.num, .int .i64 m.clk, .bool m.yes] (0, 0) _ K3.out Try.underlying30 rfl (by kernel_rfl) ?_))
  refine (isAll_c w3 m A c R3.out).mono ?_
  rw [h3]
  rintro e w4 ⟨rfl, b4⟩
  have B4 := Lib.hid (B3.out.trans (b4.mono B3.out.size))
  have J4 := Lib.hid (J3.out.past b4)
  have K4 := Lib.hid (K3.out.past b4)
  have R4 := Lib.hid (R3.out.past b4).tight
  clear b4 B3 J3 K3 R3
  have f8 := K4.out.cell (i := 8) rfl
  go_wp2_with fail
  have HB4 := Lib.hid B4.out.size
  refine (cloneE_c w4 w4.heap.size A c m.es.length m.es R4.out (by omega)).mono ?_
  rintro e w5 ⟨A', c', rfl, own, b5⟩
  have B5 := Lib.hid (B4.out.trans (b5.mono B4.out.size))
  have J5 := J4.out.past b5
  have K5 := K4.out.past b5
  have O5 := Ow.of_own own
  have hlow := O5.low
  have f8 := K5.cell (i := 8) rfl
  have z8 := K5.free 8
  have hgk : g ≠ k1 := J5.ne K5 (by decide)
  have K6 := Lib.hid (show Blk (w5.setCell ⟨k1, 8, none⟩ (.slice A' m.es.length c')) k1 30 (mcs m A' c') from K5.set 8 _)
  have t6 : Touch [k1] w5 (w5.setCell ⟨k1, 8, none⟩ (.slice A' m.es.length c')) := .of_grown (grown_set w5 k1 8 _)
  have J6 := J5.touch t6 (by rw [List.mem_singleton]; exact hgk)
  have O6 := O5.touch t6 (fun s hs => by rw [List.mem_singleton.1 hs]; exact O5.ne K5 (by decide))
  have hkw : w.heap.size ≤ k1 := HK.out
  have T6 := Lib.hid ((Touch.of_below (S := [k1]) B5.out).trans t6)
  clear own b5 J4 K4 R4 B4 K5 J5 O5 B5 t6
  have TH := Lib.hid (J6.there (o := 4) (n := 13) (by simp [jcs]))
  have J7 := Lib.hid (show Blk ((w5.setCell ⟨k1, 8, none⟩ (.slice A' m.es.length c')).setCells g 4 (mcs m A' c')) g 43 (jcs me n boot pro m A' c' false) from by
    rw [jcs_mid] at J6
    have := J6.cells (mcs m A' c') rfl
    rw [← jcs_mid] at this
    exact this)
  have t7 := grown_cells (w5.setCell ⟨k1, 8, none⟩ (.slice A' m.es.length c')) g (mcs m A' c') 4
  have O7 := O6.touch t7 (fun s hs => by rw [List.mem_singleton.1 hs]; exact O6.ne J6 (by decide))
  have T7 := Lib.hid ((T6.out.wide (S' := [k1, g]) (by simp)).trans (t7.wide (by simp)))
  have g17 := J7.out.cell (i := 17) rfl
  have y17 := J7.out.free 17
  have J8 := Lib.hid (show Blk (((w5.setCell ⟨k1, 8, none⟩ (.slice A' m.es.length c')).setCells g 4 (mcs m A' c')).setCell ⟨g, 17, none⟩ (.bool true)) g 43 (jcs me n boot pro m A' c' true) from J7.out.set 17 _)
  have t8 : Touch [g] ((w5.setCell ⟨k1, 8, none⟩ (.slice A' m.es.length c')).setCells g 4 (mcs m A' c')) _ := .of_grown (grown_set _ g 17 (.bool true))
  have O8 := Lib.hid (O7.touch t8 (fun s hs => by rw [List.mem_singleton.1 hs]; exact O7.ne J7.out (by decide)))
  have T8 := Lib.hid (T7.out.trans (t8.wide (by simp)))
  have hlow2 : ∀ x, bk A' = some x → w.heap.size ≤ x := fun x hx => Nat.le_trans HB4.out (hlow x hx)
  have HLOW := Lib.hid hlow2
  clear O6 O7 J6 J7 t7 t8 T6 T7 hlow hlow2
  go_wp2_with (first | ((with_reducible show wpList _ _ _ ((⟨some 36, Op.load _ _, _, _, _, _⟩ : Oper) :: _) _ _); go_must (refine wpList_load_row rfl 30 (.tmp 3) rfl k1 rfl 30 #[.int .i64 m.kind, .int .i64 m.fr, .int .i64 m.dst, .int .i64 m.boot, .int .i64 m.view, .int .i64 m.last, .int .i64 m.mem, .int .i64 m.pos, .slice A' m.es.length c', .int .i64 m.com, .int .i64 m.num, .int .i64 m.clk, .bool m.yes] (0, 0) _ K6.out Try.underlying30 rfl (by kernel_rfl) ?_)) | ((with_reducible show wpList _ _ _ ((⟨none, Op.store 30 (.tmp 38) (.tmp 36), _, _, _, _⟩ : Oper) :: _) _ _); go_must (refine wpList_store_midL rfl 30 (.tmp 38) (.tmp 36) rfl g 4 (mcs m A' c') rfl rfl TH.out (by kernel_rfl) (mgc_oneCell ⟨m, A', c'⟩) ?_)))
  go_ret
  refine ⟨rfl, ⟨g :: bl A', ⟨⟨A', c', J8.out, O8.out.down (Nat.zero_le _), rfl⟩, hlen⟩, fun k hk => ?_⟩, ?_⟩
  · rcases List.mem_cons.1 hk with rfl | hk
    · exact .inl HF.out
    · exact .inr (HLOW.out k (mem_bl.1 hk))
  · refine ⟨T8.out.os, T8.out.tape, T8.out.output, T8.out.size, fun k hk hn => T8.out.block k hk (fun hm => ?_)⟩
    rcases List.mem_cons.1 hm with rfl | hm
    · omega
    · rw [List.mem_singleton.1 hm] at hn; exact hn HF.out
end
end Go.Proofs.Ytnpobagipgephaa
