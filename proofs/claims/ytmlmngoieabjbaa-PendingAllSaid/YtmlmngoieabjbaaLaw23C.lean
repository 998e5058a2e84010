/- The walk of PendingAll. -/
import Derived.Test.YtmlmngoieabjbaaPendX
import Derived.Test.YtmlmngoieabjbaaPendP
import Derived.Test.YtmlmngoieabjbaaEntL
import Derived.Test.YtmlmngoieabjbaaEntR
import Derived.WalkSmall
import Derived.Deep.CutRange
import Derived.Deep.CutBlock
import Derived.Deep.LoopGhost
namespace Go.Proofs.Ytmlmngoieabjbaa
open Go.RowKit PPend

set_option maxHeartbeats 16000000 in
set_option maxRecDepth 100000 in
theorem PendingAll_w (w : World) (fr boot : Int) (A0 : Option Addr) (len c0 : Nat) (xs : List Value) (h0 : Rd w w.heap.size A0 c0 5 len xs) (hI : AllP w xs) (AM : Option Addr) (nm cm : Nat) (ml : List Ent) (hM : Rd w w.heap.size AM cm 7 nm (els ml)) (okM : ∀ e ∈ ml, EntOk e) :
    Calls Try.prog 3 #[.int .i64 fr, .int .i64 boot, .slice A0 len c0, .slice AM nm cm] w fun e w' => e = .returned (.bool true) ∧ Below w.heap.size w w' := by
  have HR := Lib.hid h0
  have HI := Lib.hid hI
  have HM := Lib.hid hM
  have OKM := Lib.hid okM
  have hcap := h0.cap
  have hle := h0.le
  have hlen : len ≤ 9223372036854775807 := by unfold maxLen at hcap; omega
  clear h0 hI hM okM hcap hle
  rcases (by omega : fr < 1 ∨ (1 ≤ fr ∧ 7 < fr) ∨ (1 ≤ fr ∧ fr ≤ 7 ∧ boot < 1) ∨ (1 ≤ fr ∧ fr ≤ 7 ∧ 1 ≤ boot ∧ 1099511627776 < boot) ∨ (1 ≤ fr ∧ fr ≤ 7 ∧ 1 ≤ boot ∧ boot ≤ 1099511627776)) with k | ⟨k, k2⟩ | ⟨k, k2, k3⟩ | ⟨k, k2, k3, k4⟩ | ⟨f1, f2, b1, b2⟩
  iterate 4
    · go_enter Try.func3, Try.ntmps3
      go_wp2_with fail
      refine (begunN_c w).mono ?_
      rintro e w1 ⟨rfl, bb⟩
      go_wp2_with fail
      refine (pnew_no w1 fr boot (by omega)).mono ?_
      rintro e w2 ⟨rfl, rfl⟩
      go_wp2_with fail
      go_ret
      exact ⟨rfl, bb⟩
  · go_enter Try.func3, Try.ntmps3
    go_wp2_with fail
    refine (begunN_c w).mono ?_
    rintro e w1 ⟨rfl, bb⟩
    go_wp2_with fail
    refine (Lp.new bb f1 f2 b1 b2).mono ?_
    rintro e w2 ⟨rfl, s2, -⟩
    have HS0 := Lib.hid (show Ax w (w2.alloc (.cells #[.int .i64 fr, .int .i64 boot, .int .i64 0, .slice none 0 0] 29)) w1.heap.size w2.heap.size fr boot 0 [] [w2.heap.size] none 0 0 [] from
      ⟨s2.alloc _, ⟨none, 0, Blk.new w2 _ _, Ow.nil _ _ _ _, rfl⟩, (by intro k hk; rw [List.mem_singleton] at hk; subst hk; exact s2.bel.size), Ow.nil _ _ _ _, (by intro k hk; simp [bl, bk] at hk)⟩)
    clear s2 bb
    generalize w1.heap.size = g at *
    go_wp2_with fail
    generalize w2.alloc (.cells #[.int .i64 fr, .int .i64 boot, .int .i64 0, .slice none 0 0] 29) = w3 at *
    generalize w2.heap.size = g2 at *
    go_loopg [12, 13] len (fun k s12 s13 wr => ∃ (i : Nat) (s : Int) (L : List Ent) (F : List Nat) (AA : Option Addr) (na ca : Nat) (AL : List Ent), k = len - i ∧ i ≤ len ∧ i ≤ 40 ∧ na ≤ i ∧ s12 = .slice AA na ca ∧ s13 = .int .i64 i ∧ Hid (Ax w wr g g2 fr boot s L F AA na ca AL))
    case atStart => exact ⟨0, 0, [], [g2], none, 0, 0, [], by omega, by omega, by omega, by omega, rfl, rfl, HS0⟩
    case round =>
      clear HS0
      obtain ⟨i, s, L, F, AA, na, ca, AL, rfl, hin, hi40, hna, rfl, rfl, AX⟩ := hrel
      by_cases h1 : i < len
      · by_cases h2 : i < 40
        · obtain ⟨bo, oo, kd, ord, lev, d, X, nx, cx, xl, rfl, hd, hrX, hxl, o0, o1, o2, o3, o4⟩ := HR.out.pop HI.out AX.out.p.bel h1
          have RX := Lib.hid (hrX.alloc (.cells #[.int .i64 kd, .int .i64 ord, .int .i64 lev, .string d, .slice X nx cx] 32))
          have XB := Lib.hid hxl
          have KO := Lib.hid (Blk.new wr #[.int .i64 kd, .int .i64 ord, .int .i64 lev, .string d, .slice X nx cx] 32)
          have AX1 := Lib.hid (AX.out.alloc (.cells #[.int .i64 kd, .int .i64 ord, .int .i64 lev, .string d, .slice X nx cx] 32))
          have HGO := Lib.hid AX.out.p.bel.size
          clear hrX hxl
          go_upto_region 13 with fail
          clear o0 o1 o2 o3 o4 AX
          have hnx := RX.out.cap
          have hnx2 := RX.out.le
          generalize wr.heap.size = gO at *
          generalize wr.alloc (.cells #[.int .i64 kd, .int .i64 ord, .int .i64 lev, .string d, .slice X nx cx] 32) = w4 at *
          have q0 := KO.out.cell (i := 0) rfl
          go_upto_if 64 with fail
          go_cut [12, 15, 16, 17, 18, 19, 20, 21] from 48 to 170 (fun s12 s15 s16 s17 s18 s19 s20 s21 wx => ∃ (s' : Int) (L' : List Ent) (F' : List Nat) (AA' : Option Addr) (na' ca' : Nat) (AL' : List Ent), na' ≤ i + 1 ∧ s12 = .slice AA' na' ca' ∧ Hid (Ax w wx g g2 fr boot s' L' F' AA' na' ca' AL'))
          case first =>
            by_cases hk0 : kd = 0
            · subst hk0
              have p3 := KO.out.cell (i := 3) rfl
              have f3 := KO.out.free 3
              go_wp2_with fail
              refine (Cut_c w4 d 20 (by decide)).mono ?_
              rintro x w5 ⟨t, rfl, rfl, ht, -⟩
              have KO2 := Lib.hid (show Blk (w4.setCell ⟨gO, 3, none⟩ (.string t)) gO 32 [.int .i64 0, .int .i64 ord, .int .i64 lev, .string t, .slice X nx cx] from KO.out.set 3 _)
              have AX2 := Lib.hid (AX1.out.aside (.of_grown (grown_set w4 gO 3 (.string t))) KO.out (by decide) (by decide) (by decide) HGO.out)
              clear q0 RX XB
              have p1 := KO2.out.cell (i := 1) rfl
              have p2 := KO2.out.cell (i := 2) rfl
              have p3' := KO2.out.cell (i := 3) rfl
              go_wp2_with fail
              clear p1 p2 p3' p3 f3 KO AX1
              generalize w4.setCell ⟨gO, 3, none⟩ (.string t) = w5 at *
              obtain ⟨e, he⟩ : ∃ e, nxt fr boot s ord lev t = e := ⟨_, rfl⟩
              cases hm : PEnt.may e
              · refine (AX2.out.p.form ord lev t e he hm).mono ?_
                simp only [ev, zeroE]
                rintro x w6 ⟨rfl, b6⟩
                have b7 := b6.alloc b6.size (.cells #[.int .i64 0, .int .i64 0, .int .i64 0, .int .i64 0, .int .i64 0, .int .i64 0, .string ⟨#[]⟩] 35)
                have AX7 := Lib.hid (AX2.out.past b7)
                have KO7 := KO2.out.past b7
                have K15 := Lib.hid (show Blk (w6.alloc (.cells #[.int .i64 0, .int .i64 0, .int .i64 0, .int .i64 0, .int .i64 0, .int .i64 0, .string ⟨#[]⟩] 35)) w6.heap.size 35 (ecs zeroE) from Blk.newEnt w6 35 zeroE)
                have p1 := KO7.cell (i := 1) rfl
                have p2 := KO7.cell (i := 2) rfl
                have p3 := KO7.cell (i := 3) rfl
                clear b6 b7 AX2 KO2 KO7
                go_wp2_with fail
                clear p1 p2 p3
                generalize w6.heap.size = k15 at *
                generalize w6.alloc (.cells #[.int .i64 0, .int .i64 0, .int .i64 0, .int .i64 0, .int .i64 0, .int .i64 0, .string ⟨#[]⟩] 35) = w7 at *
                refine (AX7.out.r.form AX7.out.p.s0 AX7.out.p.s1 ord lev t e he hm).mono ?_
                simp only [ev, zeroE]
                rintro x w8 ⟨rfl, b8⟩
                have b9 := b8.alloc b8.size (.cells #[.int .i64 0, .int .i64 0, .int .i64 0, .int .i64 0, .int .i64 0, .int .i64 0, .string ⟨#[]⟩] 35)
                have AX9 := Lib.hid (AX7.out.past b9)
                obtain ⟨d0, d1, d2, d3, d4, d5, d6⟩ := (K15.out.past b9).ent
                obtain ⟨f0', f1', f2', f3', f4', f5', f6'⟩ := (show Blk (w8.alloc (.cells #[.int .i64 0, .int .i64 0, .int .i64 0, .int .i64 0, .int .i64 0, .int .i64 0, .string ⟨#[]⟩] 35)) w8.heap.size 35 (ecs zeroE) from Blk.newEnt w8 35 zeroE).ent
                simp only [zeroE] at d0 d1 d2 d3 d4 d5 d6 f0' f1' f2' f3' f4' f5' f6'
                clear b8 b9 AX7 K15
                go_wp2_with fail
                clear d0 d1 d2 d3 d4 d5 d6 f0' f1' f2' f3' f4' f5' f6'
                generalize w8.alloc (.cells #[.int .i64 0, .int .i64 0, .int .i64 0, .int .i64 0, .int .i64 0, .int .i64 0, .string ⟨#[]⟩] 35) = w9 at *
                refine (rEq_c w9 zeroE zeroE).mono ?_
                rw [PLog.eqE_self]
                rintro x w10 ⟨rfl, b10⟩
                have AX10 := Lib.hid (AX9.out.past b10)
                clear b10 AX9
                go_wp2_with fail
                go_meet
                case rel => exact ⟨s, L, F, AA, na, ca, AL, by omega, rfl, AX10⟩
              · rcases (by omega : 4 ≤ L.length ∨ L.length < 4) with hl | hl
                · refine (AX2.out.p.busy ord lev t e he hm hl).mono ?_
                  simp only [ev, zeroE]
                  rintro x w6 ⟨rfl, b6⟩
                  have b7 := b6.alloc b6.size (.cells #[.int .i64 0, .int .i64 0, .int .i64 0, .int .i64 0, .int .i64 0, .int .i64 0, .string ⟨#[]⟩] 35)
                  have AX7 := Lib.hid (AX2.out.past b7)
                  have KO7 := KO2.out.past b7
                  have K15 := Lib.hid (show Blk (w6.alloc (.cells #[.int .i64 0, .int .i64 0, .int .i64 0, .int .i64 0, .int .i64 0, .int .i64 0, .string ⟨#[]⟩] 35)) w6.heap.size 35 (ecs zeroE) from Blk.newEnt w6 35 zeroE)
                  have p1 := KO7.cell (i := 1) rfl
                  have p2 := KO7.cell (i := 2) rfl
                  have p3 := KO7.cell (i := 3) rfl
                  clear b6 b7 AX2 KO2 KO7
                  go_wp2_with fail
                  clear p1 p2 p3
                  generalize w6.heap.size = k15 at *
                  generalize w6.alloc (.cells #[.int .i64 0, .int .i64 0, .int .i64 0, .int .i64 0, .int .i64 0, .int .i64 0, .string ⟨#[]⟩] 35) = w7 at *
                  refine (AX7.out.r.busy AX7.out.p.s0 AX7.out.p.s1 ord lev t e he hm hl).mono ?_
                  simp only [ev, zeroE]
                  rintro x w8 ⟨rfl, b8⟩
                  have b9 := b8.alloc b8.size (.cells #[.int .i64 0, .int .i64 0, .int .i64 0, .int .i64 0, .int .i64 0, .int .i64 0, .string ⟨#[]⟩] 35)
                  have AX9 := Lib.hid (AX7.out.past b9)
                  obtain ⟨d0, d1, d2, d3, d4, d5, d6⟩ := (K15.out.past b9).ent
                  obtain ⟨f0', f1', f2', f3', f4', f5', f6'⟩ := (show Blk (w8.alloc (.cells #[.int .i64 0, .int .i64 0, .int .i64 0, .int .i64 0, .int .i64 0, .int .i64 0, .string ⟨#[]⟩] 35)) w8.heap.size 35 (ecs zeroE) from Blk.newEnt w8 35 zeroE).ent
                  simp only [zeroE] at d0 d1 d2 d3 d4 d5 d6 f0' f1' f2' f3' f4' f5' f6'
                  clear b8 b9 AX7 K15
                  go_wp2_with fail
                  clear d0 d1 d2 d3 d4 d5 d6 f0' f1' f2' f3' f4' f5' f6'
                  generalize w8.alloc (.cells #[.int .i64 0, .int .i64 0, .int .i64 0, .int .i64 0, .int .i64 0, .int .i64 0, .string ⟨#[]⟩] 35) = w9 at *
                  refine (rEq_c w9 zeroE zeroE).mono ?_
                  rw [PLog.eqE_self]
                  rintro x w10 ⟨rfl, b10⟩
                  have AX10 := Lib.hid (AX9.out.past b10)
                  clear b10 AX9
                  go_wp2_with fail
                  go_meet
                  case rel => exact ⟨s, L, F, AA, na, ca, AL, by omega, rfl, AX10⟩
                · refine (AX2.out.p.add ord lev t e he hm hl).mono ?_
                  simp only [ev]
                  rintro x w6 ⟨rfl, p6, t6⟩
                  have P7 := Lib.hid (p6.alloc (.cells #[.int .i64 e.fr, .int .i64 e.boot, .int .i64 e.seq, .int .i64 e.ord, .int .i64 e.lev, .int .i64 e.stamp, .string e.data] 35))
                  have T7 := Lib.hid (t6.alloc (.cells #[.int .i64 e.fr, .int .i64 e.boot, .int .i64 e.seq, .int .i64 e.ord, .int .i64 e.lev, .int .i64 e.stamp, .string e.data] 35))
                  have R7 := Lib.hid (AX2.out.ref T7.out)
                  have hOg : gO ≠ g := by
                    obtain ⟨ys, hb⟩ := AX2.out.p.p.blk
                    exact KO2.out.ne hb (by decide)
                  have KO7 := KO2.out.touch T7.out (by rw [List.mem_singleton]; exact hOg)
                  have K15 := Lib.hid (Blk.newEnt w6 35 e)
                  have hkF := Lib.hid (show w6.heap.size ∉ F from fun hm => by have := AX2.out.r.hi _ hm; have := t6.size; omega)
                  have q1 := KO7.cell (i := 1) rfl
                  have q2 := KO7.cell (i := 2) rfl
                  have q3 := KO7.cell (i := 3) rfl
                  clear p6 t6 KO2 KO7
                  go_wp2_with fail
                  clear q1 q2 q3
                  generalize w6.heap.size = k15 at *
                  generalize w6.alloc (.cells #[.int .i64 e.fr, .int .i64 e.boot, .int .i64 e.seq, .int .i64 e.ord, .int .i64 e.lev, .int .i64 e.stamp, .string e.data] 35) = w7 at *
                  refine (R7.out.add AX2.out.p.s0 AX2.out.p.s1 ord lev t e he hm hl).mono ?_
                  simp only [ev]
                  rintro x w8 ⟨rfl, r8⟩
                  obtain ⟨F2, ax8⟩ := AX2.out.both P7.out T7.out r8
                  have AX9 := Lib.hid (ax8.alloc (.cells #[.int .i64 e.fr, .int .i64 e.boot, .int .i64 e.seq, .int .i64 e.ord, .int .i64 e.lev, .int .i64 e.stamp, .string e.data] 35))
                  have K9 := Lib.hid ((K15.out.touch r8.touch hkF.out).alloc (.cells #[.int .i64 e.fr, .int .i64 e.boot, .int .i64 e.seq, .int .i64 e.ord, .int .i64 e.lev, .int .i64 e.stamp, .string e.data] 35))
                  obtain ⟨d0, d1, d2, d3, d4, d5, d6⟩ := K9.out.ent
                  obtain ⟨f0', f1', f2', f3', f4', f5', f6'⟩ := (Blk.newEnt w8 35 e).ent
                  clear r8 ax8 AX2 P7 T7 R7 K15 hkF hOg
                  go_wp2_with fail
                  clear d0 d1 d2 d3 d4 d5 d6 f0' f1' f2' f3' f4' f5' f6'
                  generalize w8.alloc (.cells #[.int .i64 e.fr, .int .i64 e.boot, .int .i64 e.seq, .int .i64 e.ord, .int .i64 e.lev, .int .i64 e.stamp, .string e.data] 35) = w9 at *
                  refine (rEq_c w9 e e).mono ?_
                  rw [PLog.eqE_self]
                  rintro x w10 ⟨rfl, b10⟩
                  have AX10 := Lib.hid (AX9.out.past b10)
                  have K10 := Lib.hid (K9.out.past b10)
                  obtain ⟨d0, d1, d2, d3, d4, d5, d6⟩ := K10.out.ent
                  have AX11 := Lib.hid (AX10.out.alloc (.cells #[.int .i64 e.fr, .int .i64 e.boot, .int .i64 e.seq, .int .i64 e.ord, .int .i64 e.lev, .int .i64 e.stamp, .string e.data] 35))
                  have KN := Blk.newEnt w10 35 e
                  have R11 := Lib.hid (show Rd (w10.alloc (.cells #[.int .i64 e.fr, .int .i64 e.boot, .int .i64 e.seq, .int .i64 e.ord, .int .i64 e.lev, .int .i64 e.stamp, .string e.data] 35)) (w10.alloc (.cells #[.int .i64 e.fr, .int .i64 e.boot, .int .i64 e.seq, .int .i64 e.ord, .int .i64 e.lev, .int .i64 e.stamp, .string e.data] 35)).heap.size (some ⟨w10.heap.size, 0, none⟩) 1 7 1 (ecs e) from
                    ⟨rfl, Nat.le_refl _, by unfold maxLen; omega, (fun hh => by cases hh), fun _ => ⟨w10.heap.size, 0, rfl, KN.lt, fun j u hu => by rw [Nat.zero_add]; exact KN.cell hu⟩⟩)
                  clear b10 AX9 K9 KN
                  go_wp2_with (at_builtin; go_must (refine wpList_app2 rfl (.tmp 102) (.tmp 104) 23 rfl w.heap.size 35 (ev zeroE) 7 64 Try.underlying23 ent_info rfl (by omega) AA na ca (els AL) rfl AX11.out.a _ (some ⟨w10.heap.size, 0, none⟩) 1 1 (ecs e) rfl R11.out (ecs_one e) (by unfold maxLen; omega) (by omega) AX11.out.p.bel.size ?_; intro A' c' w12 O12 g12 hA12))
                  have AX12 := Lib.hid (AX11.out.push O12 g12 hA12)
                  clear O12 g12 hA12
                  go_meet
                  case rel => exact ⟨s + 1, L ++ [e], F2, A', na + 1, c', AL ++ [e], by omega, rfl, AX12⟩
            · have e0 : (kd == 0) = false := by simpa using hk0
              have E0 := Lib.hid e0
              go_wp2_with fail
              refine (lEntries_c w4 AM cm nm ml 4 ((HM.out.below AX1.out.p.bel).tight) OKM.out (by decide) (by decide)).mono ?_
              rintro x w5 ⟨A5, c5, es, rfl, hes, own5, -, b5⟩
              have O5 := Lib.hid (Ow.of_own own5)
              have B5 := Lib.hid b5
              have hes4 : es.length ≤ 4 := by rw [hes]; exact Nat.min_le_right _ _
              clear hes own5 b5 q0
              go_wp2_with fail
              go_loopw [19, 20] (fun s19 s20 wr => ∃ (k ln cl : Nat) (Al : Option Addr) (l : List Ent), k ≤ nx ∧ k ≤ 5 ∧ ln ≤ 4 + k ∧ s19 = .slice Al ln cl ∧ s20 = .int .i64 k ∧
                  Hid (Ow wr w4.heap.size 35 7 Al ln cl (els l)) ∧ Hid (Below w4.heap.size w4 wr))
                (fun _ s20 _ => nx - (intOf s20).toNat)
              case atStart => exact ⟨0, es.length, c5, A5, es, by omega, by omega, by omega, rfl, rfl, O5, B5⟩
              case round =>
                clear O5 B5
                obtain ⟨k, ln, cl, Al, l, hkx, hk5, hln, rfl, rfl, OL, BL⟩ := hrel
                have AXr := Lib.hid (AX1.out.past BL.out)
                have KOr := Lib.hid (KO.out.past BL.out)
                have q4 := KOr.out.cell (i := 4) rfl
                by_cases g1 : k < nx
                · by_cases g3 : k < 5
                  · by_cases g4 : 0 < na
                    · obtain ⟨bx, ox, x, rfl, dx, -, hxe⟩ := (RX.out.past BL.out).int g1
                      have hxlen : xl.length = nx := RX.out.ilen
                      have hxm : x ∈ xl := by rw [hxe, List.getD_eq_getElem?_getD, List.getElem?_eq_getElem (by omega)]; exact List.getElem_mem _
                      have hxb := XB.out x hxm
                      have hna40 : na ≤ 40 := by omega
                      obtain ⟨r, hr⟩ : ∃ r, Int.tmod x (na : Int) = r := ⟨_, rfl⟩
                      have hr2 : -(na : Int) < r := by have := Int.lt_tmod_of_pos x (show (0 : Int) < (na : Int) by omega); omega
                      have hr3 : r < (na : Int) := by have := Int.tmod_lt_of_pos x (show (0 : Int) < (na : Int) by omega); omega
                      obtain ⟨q', hq⟩ : ∃ q, Int.tmod (r + (na : Int)) (na : Int) = q := ⟨_, rfl⟩
                      have hq1 : 0 ≤ q' ∧ q' < (na : Int) := by
                        rw [← hq, Int.tmod_eq_emod_of_nonneg (by omega)]
                        exact ⟨Int.emod_nonneg _ (by omega), Int.emod_lt_of_pos _ (by omega)⟩
                      obtain ⟨q, rfl⟩ := Int.eq_ofNat_of_zero_le hq1.1
                      have hqn : q < na := by omega
                      have j0 : ((na : Int) == 0) = false := by simp; omega
                      obtain ⟨by_, oy, y, rfl, -, hy, -, d0, d1, d2, d3, d4, d5, d6⟩ := AXr.out.a.rd.ent hqn
                      have K1 := Lib.hid (Blk.newEnt wr 35 y)
                      have cc := K1.out.cell (i := 5) rfl
                      have ff := K1.out.free 5
                      have K2 := Lib.hid (show Blk (wr.alloc (.cells #[.int .i64 y.fr, .int .i64 y.boot, .int .i64 y.seq, .int .i64 y.ord, .int .i64 y.lev, .int .i64 99, .string y.data] 35)) wr.heap.size 35 (ecs ⟨y.fr, y.boot, y.seq, y.ord, y.lev, 99, y.data⟩) from Blk.new wr _ _)
                      obtain ⟨e0, e1, e2, e3, e4, e5, e6⟩ := K2.out.ent
                      have BW := Lib.hid (show Below wr.heap.size wr (wr.alloc (.cells #[.int .i64 y.fr, .int .i64 y.boot, .int .i64 y.seq, .int .i64 y.ord, .int .i64 y.lev, .int .i64 99, .string y.data] 35)) from (Below.refl _ _).alloc (Nat.le_refl _) _)
                      have BW2 := Lib.hid (BW.out.alloc BW.out.size (.cells #[.int .i64 y.fr, .int .i64 y.boot, .int .i64 y.seq, .int .i64 y.ord, .int .i64 y.lev, .int .i64 99, .string y.data] 35))
                      have KN : Blk ((wr.alloc (.cells #[.int .i64 y.fr, .int .i64 y.boot, .int .i64 y.seq, .int .i64 y.ord, .int .i64 y.lev, .int .i64 99, .string y.data] 35)).alloc (.cells #[.int .i64 y.fr, .int .i64 y.boot, .int .i64 y.seq, .int .i64 y.ord, .int .i64 y.lev, .int .i64 99, .string y.data] 35)) (wr.alloc (.cells #[.int .i64 y.fr, .int .i64 y.boot, .int .i64 y.seq, .int .i64 y.ord, .int .i64 y.lev, .int .i64 99, .string y.data] 35)).heap.size 35 (ecs ⟨y.fr, y.boot, y.seq, y.ord, y.lev, 99, y.data⟩) := Blk.new _ _ _
                      rw [show (wr.alloc (.cells #[.int .i64 y.fr, .int .i64 y.boot, .int .i64 y.seq, .int .i64 y.ord, .int .i64 y.lev, .int .i64 99, .string y.data] 35)).heap.size = wr.heap.size + 1 by simp] at KN
                      have RN := Lib.hid (show Rd ((wr.alloc (.cells #[.int .i64 y.fr, .int .i64 y.boot, .int .i64 y.seq, .int .i64 y.ord, .int .i64 y.lev, .int .i64 99, .string y.data] 35)).alloc (.cells #[.int .i64 y.fr, .int .i64 y.boot, .int .i64 y.seq, .int .i64 y.ord, .int .i64 y.lev, .int .i64 99, .string y.data] 35)) ((wr.alloc (.cells #[.int .i64 y.fr, .int .i64 y.boot, .int .i64 y.seq, .int .i64 y.ord, .int .i64 y.lev, .int .i64 99, .string y.data] 35)).alloc (.cells #[.int .i64 y.fr, .int .i64 y.boot, .int .i64 y.seq, .int .i64 y.ord, .int .i64 y.lev, .int .i64 99, .string y.data] 35)).heap.size (some ⟨wr.heap.size + 1, 0, none⟩) 1 7 1 (ecs ⟨y.fr, y.boot, y.seq, y.ord, y.lev, 99, y.data⟩) from
                        ⟨rfl, Nat.le_refl _, by unfold maxLen; omega, (fun hh => by cases hh), fun _ => ⟨wr.heap.size + 1, 0, rfl, KN.lt, fun j u hu => by rw [Nat.zero_add]; exact KN.cell hu⟩⟩)
                      have ON := Lib.hid (OL.out.past BW2.out)
                      have hbase := Lib.hid (show w4.heap.size ≤ ((wr.alloc (.cells #[.int .i64 y.fr, .int .i64 y.boot, .int .i64 y.seq, .int .i64 y.ord, .int .i64 y.lev, .int .i64 99, .string y.data] 35)).alloc (.cells #[.int .i64 y.fr, .int .i64 y.boot, .int .i64 y.seq, .int .i64 y.ord, .int .i64 y.lev, .int .i64 99, .string y.data] 35)).heap.size from Nat.le_trans BL.out.size BW2.out.size)
                      clear KN hxe hxm hxlen hy
                      go_wp2_with (at_builtin; go_must (refine wpList_app2 rfl (.tmp 142) (.tmp 144) 23 rfl w4.heap.size 35 (ev zeroE) 7 64 Try.underlying23 ent_info rfl (by omega) Al ln cl (els l) rfl ON.out _ (some ⟨wr.heap.size + 1, 0, none⟩) 1 1 (ecs ⟨y.fr, y.boot, y.seq, y.ord, y.lev, 99, y.data⟩) rfl RN.out (ecs_one _) (by unfold maxLen; omega) (by omega) hbase.out ?_; intro A' c' w9 O9 g9 hA9))
                      have BL9 := Lib.hid ((BL.out.trans (BW2.out.mono BL.out.size)).trans ((Touch.of_bk g9).below (fun q hq => OL.out.low q (mem_bl.1 hq)) hbase.out))
                      have O10 := Lib.hid (show Ow w9 w4.heap.size 35 7 A' (ln + 1) c' (els (l ++ [⟨y.fr, y.boot, y.seq, y.ord, y.lev, 99, y.data⟩])) by rw [els_append]; exact O9)
                      clear O9 g9 hA9
                      go_wp2_with fail
                      go_roundw
                      case rel => exact ⟨k + 1, ln + 1, c', A', _, by omega, by omega, by omega, rfl, by go_num, O10, BL9⟩
                      case measure => simp [intOf]; omega
                    · go_wp2_with fail
                      have hlg : bk Al ≠ some g := by
                        obtain ⟨ys, hb⟩ := AXr.out.p.p.blk
                        exact OL.out.ne hb (by decide)
                      refine (AXr.out.p.done OL.out.rd (fun _ => hlg)).mono ?_
                      rintro x w5 ⟨rfl, p1, t1⟩
                      have P5 := Lib.hid p1
                      have T5 := Lib.hid t1
                      have O5 := Lib.hid (OL.out.touch t1 (fun q hq => by rw [List.mem_singleton] at hq; subst hq; exact hlg))
                      have R5 := Lib.hid (AXr.out.ref t1)
                      have hL := AXr.out.p.p.few
                      clear p1 t1 hlg OL BL
                      obtain ⟨m, hm⟩ : ∃ m : Int, (L.length : Int) - ((left l L).length : Int) = m := ⟨_, rfl⟩
                      rw [hm]
                      have HMM := Lib.hid hm
                      clear hm
                      go_wp2_with fail
                      refine (rndone_c w5 g2 F fr boot s L R5.out (by omega) Al cl ln l O5.out.rd).mono ?_
                      rw [HMM.out]
                      rintro x w6 ⟨rfl, r6⟩
                      obtain ⟨F2, ax6⟩ := AXr.out.both P5.out T5.out r6
                      have AX6 := Lib.hid ax6
                      clear r6 ax6 P5 T5 O5 R5 HMM AXr
                      go_wp2_with fail
                      go_meet
                      case rel => exact ⟨s, left l L, F2, AA, na, ca, AL, by omega, rfl, AX6⟩
                  · go_wp2_with fail
                    have hlg : bk Al ≠ some g := by
                      obtain ⟨ys, hb⟩ := AXr.out.p.p.blk
                      exact OL.out.ne hb (by decide)
                    refine (AXr.out.p.done OL.out.rd (fun _ => hlg)).mono ?_
                    rintro x w5 ⟨rfl, p1, t1⟩
                    have P5 := Lib.hid p1
                    have T5 := Lib.hid t1
                    have O5 := Lib.hid (OL.out.touch t1 (fun q hq => by rw [List.mem_singleton] at hq; subst hq; exact hlg))
                    have R5 := Lib.hid (AXr.out.ref t1)
                    have hL := AXr.out.p.p.few
                    clear p1 t1 hlg OL BL
                    obtain ⟨m, hm⟩ : ∃ m : Int, (L.length : Int) - ((left l L).length : Int) = m := ⟨_, rfl⟩
                    rw [hm]
                    have HMM := Lib.hid hm
                    clear hm
                    go_wp2_with fail
                    refine (rndone_c w5 g2 F fr boot s L R5.out (by omega) Al cl ln l O5.out.rd).mono ?_
                    rw [HMM.out]
                    rintro x w6 ⟨rfl, r6⟩
                    obtain ⟨F2, ax6⟩ := AXr.out.both P5.out T5.out r6
                    have AX6 := Lib.hid ax6
                    clear r6 ax6 P5 T5 O5 R5 HMM AXr
                    go_wp2_with fail
                    go_meet
                    case rel => exact ⟨s, left l L, F2, AA, na, ca, AL, by omega, rfl, AX6⟩
                · go_wp2_with fail
                  have hlg : bk Al ≠ some g := by
                    obtain ⟨ys, hb⟩ := AXr.out.p.p.blk
                    exact OL.out.ne hb (by decide)
                  refine (AXr.out.p.done OL.out.rd (fun _ => hlg)).mono ?_
                  rintro x w5 ⟨rfl, p1, t1⟩
                  have P5 := Lib.hid p1
                  have T5 := Lib.hid t1
                  have O5 := Lib.hid (OL.out.touch t1 (fun q hq => by rw [List.mem_singleton] at hq; subst hq; exact hlg))
                  have R5 := Lib.hid (AXr.out.ref t1)
                  have hL := AXr.out.p.p.few
                  clear p1 t1 hlg OL BL
                  obtain ⟨m, hm⟩ : ∃ m : Int, (L.length : Int) - ((left l L).length : Int) = m := ⟨_, rfl⟩
                  rw [hm]
                  have HMM := Lib.hid hm
                  clear hm
                  go_wp2_with fail
                  refine (rndone_c w5 g2 F fr boot s L R5.out (by omega) Al cl ln l O5.out.rd).mono ?_
                  rw [HMM.out]
                  rintro x w6 ⟨rfl, r6⟩
                  obtain ⟨F2, ax6⟩ := AXr.out.both P5.out T5.out r6
                  have AX6 := Lib.hid ax6
                  clear r6 ax6 P5 T5 O5 R5 HMM AXr
                  go_wp2_with fail
                  go_meet
                  case rel => exact ⟨s, left l L, F2, AA, na, ca, AL, by omega, rfl, AX6⟩
          case rest =>
            clear KO AX1 q0 RX XB hnx hnx2
            clear hna
            obtain ⟨s, L, F, AA, na, ca, AL, hna', rfl, AX⟩ := hcut
            obtain ⟨AD, cD, hbD, hrD⟩ := AX.out.r.blk
            have CD := Lib.hid hbD.drew
            have RD := Lib.hid hrD
            clear hbD hrD
            go_upto_region 30 with fail
-- REGION curfew/curfewlaw23.PendingAll 30 pnall30 12
            refine Hb.begin ?_
            refine Hb.take (v := .pointer (some ⟨g, 0, none⟩)) 0 153 rfl ?_ (fun _ _ => rfl)
            refine Hb.take (v := .pointer (some ⟨g2, 0, none⟩)) 2 155 rfl ?_ (fun _ _ => rfl)
            refine Hb.take (v := .pointer (some ⟨g2, 0, none⟩)) 3 156 rfl ?_ (fun w' hw' => by go_simp; first | done | rfl | omega | exact wrap_in (by omega) (by omega) | exact Int.tmod_eq_emod_of_nonneg (by omega) | exact Int.tdiv_eq_ediv_of_nonneg (by omega) | (simp; omega))
            refine Hb.take (v := .pointer (some ⟨g2, 3, none⟩)) 4 157 rfl ?_ (fun w' hw' => by go_simp; first | done | rfl | omega | exact wrap_in (by omega) (by omega) | exact Int.tmod_eq_emod_of_nonneg (by omega) | exact Int.tdiv_eq_ediv_of_nonneg (by omega) | (simp; omega))
            refine Hb.take (v := .slice AD L.length cD) 5 158 rfl ?_ (fun w' hw' => by exact run_loadEs ((CD.out.below hw' CD.out.lt).cell (i := 3) rfl) rfl)
            refine Hb.call (f := 16) (args := #[.pointer (some ⟨g, 0, none⟩)]) 1 154 rfl ?_ (run_callf Try.func16 (by kernel_rfl) (by kernel_rfl) (by simp only [List.map_toArray, List.map_cons, List.map_nil]; rfl))
            refine AX.out.drew.p.list.mono ?_
            rintro x w5 ⟨A5, c5, rfl, own5, b5⟩
            have R5 := Lib.hid (Rd.of_own own5)
            have X5 := Lib.hid (AX.out.drew.past b5)
            have C5 := Lib.hid ((CD.out.past b5))
            have D5 := Lib.hid ((RD.out.drew.past b5).tight)
            clear own5
            refine Hb.back b5 b5.size ?_
            refine Hb.call (f := 15) (args := #[.slice A5 L.length c5, .slice AD L.length cD]) 6 159 rfl ?_ (run_callf Try.func15 (by kernel_rfl) (by kernel_rfl) (by simp only [List.map_toArray, List.map_cons, List.map_nil]; rfl))
            refine (EqAll_c w5 A5 AD c5 L.length cD L.length L L R5.out.tight D5.out).mono ?_
            rw [PLog.eqL_self]
            rintro x w6 ⟨rfl, b6⟩
            have X6 := Lib.hid (X5.out.past b6)
            have C6 := Lib.hid (C5.out.past b6)
            clear R5 X5 D5
            refine Hb.back b6 b6.size ?_
            refine Hb.take (v := .bool false) 7 160 rfl ?_ (fun w' hw' => by go_simp; first | done | rfl | omega | exact wrap_in (by omega) (by omega) | exact Int.tmod_eq_emod_of_nonneg (by omega) | exact Int.tdiv_eq_ediv_of_nonneg (by omega) | (simp; omega))
            refine Hb.take (v := .bool false) 8 161 rfl ?_ (fun _ _ => rfl)
            refine Hb.take (v := .pointer (some ⟨g, 0, none⟩)) 9 162 rfl ?_ (fun _ _ => rfl)
            refine Hb.take (v := .pointer (some ⟨g2, 0, none⟩)) 11 164 rfl ?_ (fun _ _ => rfl)
            refine Hb.take (v := .pointer (some ⟨g2, 0, none⟩)) 12 165 rfl ?_ (fun w' hw' => by go_simp; first | done | rfl | omega | exact wrap_in (by omega) (by omega) | exact Int.tmod_eq_emod_of_nonneg (by omega) | exact Int.tdiv_eq_ediv_of_nonneg (by omega) | (simp; omega))
            refine Hb.take (v := .pointer (some ⟨g2, 3, none⟩)) 13 166 rfl ?_ (fun w' hw' => by go_simp; first | done | rfl | omega | exact wrap_in (by omega) (by omega) | exact Int.tmod_eq_emod_of_nonneg (by omega) | exact Int.tdiv_eq_ediv_of_nonneg (by omega) | (simp; omega))
            refine Hb.take (v := .slice AD L.length cD) 14 167 rfl ?_ (fun w' hw' => by exact run_loadEs ((C6.out.below hw' C6.out.lt).cell (i := 3) rfl) rfl)
            refine Hb.take (v := .int .i64 (L.length : Int)) 15 168 rfl ?_ (fun w' hw' => by go_simp; first | done | rfl | omega | exact wrap_in (by omega) (by omega) | exact Int.tmod_eq_emod_of_nonneg (by omega) | exact Int.tdiv_eq_ediv_of_nonneg (by omega) | (simp; omega))
            refine Hb.call (f := 17) (args := #[.pointer (some ⟨g, 0, none⟩)]) 10 163 rfl ?_ (run_callf Try.func17 (by kernel_rfl) (by kernel_rfl) (by simp only [List.map_toArray, List.map_cons, List.map_nil]; rfl))
            refine X6.out.p.len.mono ?_
            rintro x w7 ⟨rfl, rfl⟩
            refine Hb.back (Below.refl _ _) (Nat.le_refl _) ?_
            refine Hb.take (v := .bool false) 16 169 rfl ?_ (fun w' hw' => by go_simp; first | done | rfl | omega | exact wrap_in (by omega) (by omega) | exact Int.tmod_eq_emod_of_nonneg (by omega) | exact Int.tdiv_eq_ediv_of_nonneg (by omega) | (simp; omega))
            refine Hb.take (v := .bool false) 17 170 rfl ?_ (fun _ _ => rfl)
            refine Hb.done ?_
-- END
            go_wp2_with fail
            go_roundg (len - (i + 1))
            case measure => omega
            case rel => exact ⟨i + 1, _, _, _, _, _, _, _, rfl, by omega, by omega, hna', rfl, by go_num, X6⟩
        · obtain rfl : i = 40 := by omega
          go_wp2_with fail
          go_ret
          exact ⟨rfl, AX.out.p.bel⟩
      · go_wp2_with fail
        go_ret
        exact ⟨rfl, AX.out.p.bel⟩
end Go.Proofs.Ytmlmngoieabjbaa
