/- The walk of CrossMore. Made by program (gen10w.py). -/
import Derived.Test.YtapfdceopbkcgaaCrossI
import Derived.Test.YtapfdceopbkcgaaCrossJ
import Derived.Test.YtapfdceopbkcgaaHeld2
namespace Go.Proofs.Ytapfdceopbkcgaa
open Go.RowKit
open PDrift (pr)
open PCross (at_ cnt)

set_option maxHeartbeats 2000000 in
set_option maxRecDepth 100000 in
theorem CrossMore_w (w : World) (A : Option Addr) (c n : Nat) (l : List (Int × Int)) (h : Rd w w.heap.size A c 2 n (tcs l)) (hF : PCross.Fits l) (rx ry t : Int) (hR : PCross.Fits [(rx, ry)]) :
    Calls Try.prog 7 #[.slice A n c, .agg #[.int .i64 rx, .int .i64 ry], .int .i64 t] w fun e w' => e = .returned (.bool true) ∧ Below w.heap.size w w' := by
  have R0 := h.alloc (.cells #[.int .i64 rx, .int .i64 ry] 28)
  have HF0 := Lib.hid hF
  have HFR0 := Lib.hid hR
  have tz : ∀ w, Sem.run Try.prog (zeroValue 28) w = .ok (.agg #[.int .i64 0, .int .i64 0]) w := Try.zeroValue28
  clear h hF hR
  show Calls _ _ #[_, .agg #[.int .i64 rx, .int .i64 ry], _] _ _
  go_enter Try.func7, Try.ntmps7
  go_wp2_with fail
  have KR := Blk.new w #[.int .i64 rx, .int .i64 ry] 28
  have BS := (Below.refl w.heap.size w).alloc (Nat.le_refl _) (.cells #[.int .i64 rx, .int .i64 ry] 28)
  generalize w.alloc (.cells #[.int .i64 rx, .int .i64 ry] 28) = w0 at *
  have KR := Lib.hid KR
  refine (begun_c w0).mono ?_
  rintro e w1 ⟨rfl, b1⟩
  have R1 := Lib.hid (R0.past b1)
  have KR := Lib.hid (KR.out.past b1)
  have BS := Lib.hid (BS.trans (b1.mono BS.size))
  clear b1 R0
  go_wp2_with fail
  refine (of_c w1 A c n l (R1.out.more BS.out.size)).mono ?_
  rintro e w2 ⟨A1, c1, A2, c2, m, rfl, hm, hL, r1, r2, b2⟩
  have HF := Lib.hid (HF0.out.take 12)
  generalize l.take 12 = L at *
  have HFR := Lib.hid (HF.out.app HFR0.out)
  have RA := Lib.hid r1.tight
  have KR := Lib.hid (KR.out.past b2)
  have BT := Lib.hid (BS.out.trans (b2.mono BS.out.size))
  clear r1 r2 b2 R1 HF0 BS
  go_wp2_with fail
  refine (cCount_c w2 A1 c1 m L RA.out (by omega) t).mono ?_
  obtain ⟨v, hv⟩ : ∃ v, cnt L t = v := ⟨_, rfl⟩
  have HV := Lib.hid hv
  have hvm := PCross.cnt_le L t
  rw [hv] at hvm ⊢
  clear hv
  rintro e z1 ⟨rfl, b3⟩
  have RA := Lib.hid (RA.out.past b3)
  have KR := Lib.hid (KR.out.past b3)
  have H2 := Lib.hid b3.size
  have BT := Lib.hid (BT.out.trans (b3.mono BT.out.size))
  clear b3
  go_upto_region 6 with fail
  go_cut [9] from 26 (fun s9 wx => s9 = .int .i64 (cnt (L ++ [(rx, ry)]) t : Nat) ∧ Hid (Rd wx w2.heap.size A1 c1 2 m (tcs L)) ∧ Hid (Blk wx w.heap.size 28 [.int .i64 rx, .int .i64 ry]) ∧ Hid (Below w.heap.size w wx) ∧ Hid (w2.heap.size ≤ wx.heap.size))
  case first =>
    refine Hb.begin ?_
    have RA := Lib.hid (show Rd z1.drew w2.heap.size A1 c1 2 m (tcs L) from RA.out)
    have KR := Lib.hid (show Blk z1.drew w.heap.size 28 [.int .i64 rx, .int .i64 ry] from KR.out)
    have BT := Lib.hid (show Below w.heap.size w z1.drew from BT.out.drew)
    have H2 := Lib.hid (show w2.heap.size ≤ z1.drew.heap.size from H2.out)
    have GR := Lib.hid (show w.heap.size < z1.drew.heap.size from KR.out.lt)
    have HW := Lib.hid (show w.heap.size ≤ z1.drew.heap.size from BT.out.size)
    show Hb _ _ _ z1.drew.heap.size _ _ _ z1.drew
    generalize z1.drew = x0 at *
    have HX := Lib.hid (Nat.le_refl x0.heap.size)
    refine Hb.take (v := .slice A1 m c1) 0 26 rfl ?_ (fun _ _ => rfl)
    refine Hb.take (v := .agg #[.int .i64 rx, .int .i64 ry]) 2 28 rfl ?_ (fun w' hw' => run_load2 Try.underlying28 rfl (by kernel_rfl) rfl ((hw'.cell (p := ⟨w.heap.size, 0, none⟩) GR.out).trans (KR.out.cell (i := 0) rfl)) ((hw'.cell (p := ⟨w.heap.size, 0 + 1, none⟩) GR.out).trans (KR.out.cell (i := 1) rfl)))
    refine Hb.take (v := .int .i64 t) 5 31 rfl ?_ (fun _ _ => rfl)
    refine Hb.two 1 3 ?_ ?_
    · skip
      refine Hb.pick 1 (some 27) rfl ?_
      refine wpList_app2 rfl (.const (.slice none 0 0)) (.tmp 26) 22 rfl x0.heap.size 28 _ 2 16 Try.underlying22 crg_info rfl (by omega) none 0 0 [] rfl (Ow.nil _ _ _ _) _ A1 c1 m (tcs L) rfl RA.out (tcs_one _) ?d1 ?d2 HX.out ?_
      case d1 => unfold maxLen; omega
      case d2 => omega
      intro AX1 cX1 y1 OO1 g1 n1
      have b1 : Below x0.heap.size x0 y1 := (Below.refl _ _).grown g1 (Nat.le_refl _) (fun x hx => by cases hx)
      have hx1 := HX.out
      have O1 : Hid (Ow y1 x0.heap.size 28 2 AX1 m cX1 (tcs L)) := Lib.hid (by simpa using OO1)
      have hs1 : x0.heap.size ≤ y1.heap.size := b1.size
      have RA := Lib.hid (RA.out.past b1)
      have KR := Lib.hid (KR.out.past b1)
      have HX := Lib.hid (Nat.le_trans hx1 b1.size)
      have BT := Lib.hid (BT.out.trans (b1.mono (Nat.le_trans HW.out hx1)))
      rw [show 0 + m = m by omega]
      refine Hb.next (b1.mono hx1) (Nat.le_refl _) ?_
      clear b1 g1 n1 OO1 hs1
      refine Hb.only 3 (some 29) rfl ?_
      refine wpList_build2 rfl 22 28 (.tmp 28) rfl Try.underlying22 Try.sizeOf28 tz (.int .i64 rx) (.int .i64 ry) rfl ?_
      have b2 : Below y1.heap.size y1 (y1.alloc (.cells #[.int .i64 rx, .int .i64 ry] 28)) := (Below.refl _ _).alloc (Nat.le_refl _) _
      have hx2 := HX.out
      have RA := Lib.hid (RA.out.past b2)
      have KR := Lib.hid (KR.out.past b2)
      have O1 := Lib.hid (O1.out.past b2)
      have N3 := Lib.hid (Rd.one y1 (rx, ry) 28)
      have HX := Lib.hid (Nat.le_trans hx2 b2.size)
      have BT := Lib.hid (BT.out.trans (b2.mono (Nat.le_trans HW.out hx2)))
      refine Hb.next (b2.mono hx2) (Nat.le_refl _) ?_ (by simp only [Act.put, List.setIfInBounds_toArray, List.set_cons_succ, List.set_cons_zero]; rfl)
      clear b2
      generalize y1.alloc (.cells #[.int .i64 rx, .int .i64 ry] 28) = y2 at *
      refine Hb.only 4 (some 30) rfl ?_
      refine wpList_app2 rfl (.tmp 27) (.tmp 29) 22 rfl x0.heap.size 28 _ 2 16 Try.underlying22 crg_info rfl (by omega) AX1 m cX1 (tcs L) rfl O1.out _ _ 1 1 (tcs [(rx, ry)]) rfl N3.out (tcs_one _) ?d1 ?d2 HX.out ?_
      case d1 => unfold maxLen; omega
      case d2 => omega
      intro AY3 cY3 y3 OO3 g3 n3
      have T3 := Touch.of_bk g3
      have b3 : Below x0.heap.size y2 y3 := T3.below (fun x hx => O1.out.low x (mem_bl.1 hx)) HX.out
      have hx3 := HX.out
      have hy3 : y2.heap.size ≤ y3.heap.size := g3.size
      have O4 : Hid (Ow y3 x0.heap.size 28 2 AY3 (m + 1) cY3 (tcs (L ++ [(rx, ry)]))) := Lib.hid (by rw [tcs_app]; exact OO3)
      have RA := Lib.hid (RA.out.below (b3.mono H2.out))
      have KR := Lib.hid (KR.out.below b3 GR.out)
      have HX := Lib.hid (Nat.le_trans hx3 hy3)
      have BT := Lib.hid (BT.out.trans (b3.mono HW.out))
      refine Hb.next b3 (Nat.le_refl _) ?_
      clear b3 g3 n3 OO3 T3 O1 N3 hy3
      refine Hb.call (f := 15) (args := #[.slice AY3 (m + 1) cY3, .int .i64 t]) 6 32 rfl ?_ (run_callf Try.func15 (by kernel_rfl) (by kernel_rfl) (by simp only [List.map_toArray, List.map_cons, List.map_nil]; rfl))
      refine (cCount_c y3 AY3 cY3 (m + 1) (L ++ [(rx, ry)]) O4.out.rd (by omega) t).mono ?_
      rintro e y4 ⟨rfl, b4⟩
      have hx4 := HX.out
      have RA := Lib.hid (RA.out.past b4)
      have KR := Lib.hid (KR.out.past b4)
      have O4 := Lib.hid (O4.out.past b4)
      have HX := Lib.hid (Nat.le_trans hx4 b4.size)
      have BT := Lib.hid (BT.out.trans (b4.mono (Nat.le_trans HW.out hx4)))
      refine Hb.back (b4.mono hx4) (Nat.le_refl _) ?_
      clear b4
      refine Hb.take (v := .int .i64 (cnt (L ++ [(rx, ry)]) t : Nat)) 7 9 rfl ?_ (fun _ _ => rfl)
      refine Hb.done ?_
      go_wp2_with fail
      go_meet
      case rel => exact ⟨rfl, RA, KR, BT, Lib.hid (Nat.le_trans H2.out HX.out)⟩
    · skip
      refine Hb.pick 3 (some 29) rfl ?_
      refine wpList_build2 rfl 22 28 (.tmp 28) rfl Try.underlying22 Try.sizeOf28 tz (.int .i64 rx) (.int .i64 ry) rfl ?_
      have b5 : Below x0.heap.size x0 (x0.alloc (.cells #[.int .i64 rx, .int .i64 ry] 28)) := (Below.refl _ _).alloc (Nat.le_refl _) _
      have hx5 := HX.out
      have RA := Lib.hid (RA.out.past b5)
      have KR := Lib.hid (KR.out.past b5)
      have N3 := Lib.hid (Rd.one x0 (rx, ry) 28)
      have HX := Lib.hid (Nat.le_trans hx5 b5.size)
      have BT := Lib.hid (BT.out.trans (b5.mono (Nat.le_trans HW.out hx5)))
      refine Hb.next (b5.mono hx5) (Nat.le_refl _) ?_ (by simp only [Act.put, List.setIfInBounds_toArray, List.set_cons_succ, List.set_cons_zero]; rfl)
      clear b5
      generalize x0.alloc (.cells #[.int .i64 rx, .int .i64 ry] 28) = y5 at *
      refine Hb.only 1 (some 27) rfl ?_
      refine wpList_app2 rfl (.const (.slice none 0 0)) (.tmp 26) 22 rfl x0.heap.size 28 _ 2 16 Try.underlying22 crg_info rfl (by omega) none 0 0 [] rfl (Ow.nil _ _ _ _) _ A1 c1 m (tcs L) rfl RA.out (tcs_one _) ?d1 ?d2 HX.out ?_
      case d1 => unfold maxLen; omega
      case d2 => omega
      intro AX6 cX6 y6 OO6 g6 n6
      have b6 : Below y5.heap.size y5 y6 := (Below.refl _ _).grown g6 (Nat.le_refl _) (fun x hx => by cases hx)
      have hx6 := HX.out
      have O1 : Hid (Ow y6 x0.heap.size 28 2 AX6 m cX6 (tcs L)) := Lib.hid (by simpa using OO6)
      have hs6 : y5.heap.size ≤ y6.heap.size := b6.size
      have RA := Lib.hid (RA.out.past b6)
      have KR := Lib.hid (KR.out.past b6)
      have N3 := Lib.hid (N3.out.past b6)
      have HX := Lib.hid (Nat.le_trans hx6 b6.size)
      have BT := Lib.hid (BT.out.trans (b6.mono (Nat.le_trans HW.out hx6)))
      rw [show 0 + m = m by omega]
      refine Hb.next (b6.mono hx6) (Nat.le_refl _) ?_
      clear b6 g6 n6 OO6 hs6
      refine Hb.only 4 (some 30) rfl ?_
      refine wpList_app2 rfl (.tmp 27) (.tmp 29) 22 rfl x0.heap.size 28 _ 2 16 Try.underlying22 crg_info rfl (by omega) AX6 m cX6 (tcs L) rfl O1.out _ _ 1 1 (tcs [(rx, ry)]) rfl N3.out (tcs_one _) ?d1 ?d2 HX.out ?_
      case d1 => unfold maxLen; omega
      case d2 => omega
      intro AY7 cY7 y7 OO7 g7 n7
      have T7 := Touch.of_bk g7
      have b7 : Below x0.heap.size y6 y7 := T7.below (fun x hx => O1.out.low x (mem_bl.1 hx)) HX.out
      have hx7 := HX.out
      have hy7 : y6.heap.size ≤ y7.heap.size := g7.size
      have O4 : Hid (Ow y7 x0.heap.size 28 2 AY7 (m + 1) cY7 (tcs (L ++ [(rx, ry)]))) := Lib.hid (by rw [tcs_app]; exact OO7)
      have RA := Lib.hid (RA.out.below (b7.mono H2.out))
      have KR := Lib.hid (KR.out.below b7 GR.out)
      have HX := Lib.hid (Nat.le_trans hx7 hy7)
      have BT := Lib.hid (BT.out.trans (b7.mono HW.out))
      refine Hb.next b7 (Nat.le_refl _) ?_
      clear b7 g7 n7 OO7 T7 O1 N3 hy7
      refine Hb.call (f := 15) (args := #[.slice AY7 (m + 1) cY7, .int .i64 t]) 6 32 rfl ?_ (run_callf Try.func15 (by kernel_rfl) (by kernel_rfl) (by simp only [List.map_toArray, List.map_cons, List.map_nil]; rfl))
      refine (cCount_c y7 AY7 cY7 (m + 1) (L ++ [(rx, ry)]) O4.out.rd (by omega) t).mono ?_
      rintro e y8 ⟨rfl, b8⟩
      have hx8 := HX.out
      have RA := Lib.hid (RA.out.past b8)
      have KR := Lib.hid (KR.out.past b8)
      have O4 := Lib.hid (O4.out.past b8)
      have HX := Lib.hid (Nat.le_trans hx8 b8.size)
      have BT := Lib.hid (BT.out.trans (b8.mono (Nat.le_trans HW.out hx8)))
      refine Hb.back (b8.mono hx8) (Nat.le_refl _) ?_
      clear b8
      refine Hb.take (v := .int .i64 (cnt (L ++ [(rx, ry)]) t : Nat)) 7 9 rfl ?_ (fun _ _ => rfl)
      refine Hb.done ?_
      go_wp2_with fail
      go_meet
      case rel => exact ⟨rfl, RA, KR, BT, Lib.hid (Nat.le_trans H2.out HX.out)⟩
  case rest =>
    obtain ⟨rfl, RA2, KR2, BT2, H22⟩ := hcut
    clear RA KR BT H2
    have RA := RA2
    have KR := KR2
    have BT := BT2
    have H2 := H22
    clear RA2 KR2 BT2 H22
    have HC := Lib.hid (show cnt (L ++ [(rx, ry)]) t = v + if PCross.Has (rx, ry) t then 1 else 0 by rw [PCross.cnt_app, PCross.cnt_one, HV.out])
    obtain ⟨v2, hv2⟩ : ∃ v, cnt (L ++ [(rx, ry)]) t = v := ⟨_, rfl⟩
    rw [hv2] at HC ⊢
    clear hv2
    have d0 := KR.out.cell (i := 0) rfl
    have d1 := KR.out.cell (i := 1) rfl
    go_upto_region 7 with fail
    go_cut [10] from 33 (fun s10 wx => s10 = .bool (decide (PCross.Has (rx, ry) t)) ∧ wc = wx)
    case first =>
      rcases (by omega : rx ≤ t ∧ t ≤ ry ∨ rx ≤ t ∧ ¬ t ≤ ry ∨ ¬ rx ≤ t) with ⟨j1, j2⟩ | ⟨j1, j2⟩ | j1
      · have HH := Lib.hid (decide_eq_true (show PCross.Has (rx, ry) t from ⟨j1, j2⟩))
        go_wp2_with fail
        go_meet
        case rel => exact ⟨by rw [HH.out], rfl⟩
      · have HH := Lib.hid (decide_eq_false (show ¬ PCross.Has (rx, ry) t from fun h => j2 h.2))
        go_wp2_with fail
        go_meet
        case rel => exact ⟨by rw [HH.out], rfl⟩
      · have HH := Lib.hid (decide_eq_false (show ¬ PCross.Has (rx, ry) t from fun h => j1 h.1))
        go_wp2_with fail
        go_meet
        case rel => exact ⟨by rw [HH.out], rfl⟩
    case rest =>
      obtain ⟨rfl, rfl⟩ := hcut
      go_wp2_with fail
      refine (cBest_c wc A1 c1 m L (RA.out.more H2.out) (by omega) HF.out).mono ?_
      rintro e z3 ⟨lo, hi, k, rfl, b3, hk, hB⟩
      unfold rg
      have HB := Lib.hid hB
      have al := (Below.refl z3.heap.size z3).alloc (Nat.le_refl _) (.cells #[.int .i64 lo, .int .i64 hi] 28)
      have bb := b3.trans (al.mono b3.size)
      have RA := Lib.hid (RA.out.past bb)
      have KR := Lib.hid (KR.out.past bb)
      have BT := Lib.hid (BT.out.trans (bb.mono BT.out.size))
      have H2 := Lib.hid (Nat.le_trans H2.out bb.size)
      clear hB d0 d1
      go_upto_region 9 with fail
      clear al bb b3
      generalize z3.alloc (.cells #[.int .i64 lo, .int .i64 hi] 28) = z4 at *
      generalize z3.heap.size = g11 at *
      go_cut [13, 14] from 44 (fun s13 s14 wx => ∃ (lo2 hi2 : Int) (k2 : Nat), s14 = .int .i64 k2 ∧ k2 ≤ m + 1 ∧ Hid (PCross.IsBest (L ++ [(rx, ry)]) lo2 hi2 k2) ∧ Hid (Below w.heap.size w wx))
      case first =>
        refine Hb.begin ?_
        have RA := Lib.hid (show Rd z4.drew w2.heap.size A1 c1 2 m (tcs L) from RA.out)
        have KR := Lib.hid (show Blk z4.drew w.heap.size 28 [.int .i64 rx, .int .i64 ry] from KR.out)
        have BT := Lib.hid (show Below w.heap.size w z4.drew from BT.out.drew)
        have H2 := Lib.hid (show w2.heap.size ≤ z4.drew.heap.size from H2.out)
        have GR := Lib.hid (show w.heap.size < z4.drew.heap.size from KR.out.lt)
        have HW := Lib.hid (show w.heap.size ≤ z4.drew.heap.size from BT.out.size)
        show Hb _ _ _ z4.drew.heap.size _ _ _ z4.drew
        generalize z4.drew = x0 at *
        have HX := Lib.hid (Nat.le_refl x0.heap.size)
        refine Hb.take (v := .slice A1 m c1) 0 49 rfl ?_ (fun _ _ => rfl)
        refine Hb.take (v := .agg #[.int .i64 rx, .int .i64 ry]) 2 51 rfl ?_ (fun w' hw' => run_load2 Try.underlying28 rfl (by kernel_rfl) rfl ((hw'.cell (p := ⟨w.heap.size, 0, none⟩) GR.out).trans (KR.out.cell (i := 0) rfl)) ((hw'.cell (p := ⟨w.heap.size, 0 + 1, none⟩) GR.out).trans (KR.out.cell (i := 1) rfl)))
        refine Hb.three 1 3 9 ?_ ?_ ?_
        · skip
          refine Hb.pick 1 (some 50) rfl ?_
          refine wpList_app2 rfl (.const (.slice none 0 0)) (.tmp 49) 22 rfl x0.heap.size 28 _ 2 16 Try.underlying22 crg_info rfl (by omega) none 0 0 [] rfl (Ow.nil _ _ _ _) _ A1 c1 m (tcs L) rfl RA.out (tcs_one _) ?d1 ?d2 HX.out ?_
          case d1 => unfold maxLen; omega
          case d2 => omega
          intro AX1 cX1 y1 OO1 g1 n1
          have b1 : Below x0.heap.size x0 y1 := (Below.refl _ _).grown g1 (Nat.le_refl _) (fun x hx => by cases hx)
          have hx1 := HX.out
          have O1 : Hid (Ow y1 x0.heap.size 28 2 AX1 m cX1 (tcs L)) := Lib.hid (by simpa using OO1)
          have hs1 : x0.heap.size ≤ y1.heap.size := b1.size
          have RA := Lib.hid (RA.out.past b1)
          have KR := Lib.hid (KR.out.past b1)
          have HX := Lib.hid (Nat.le_trans hx1 b1.size)
          have BT := Lib.hid (BT.out.trans (b1.mono (Nat.le_trans HW.out hx1)))
          rw [show 0 + m = m by omega]
          refine Hb.next (b1.mono hx1) (Nat.le_refl _) ?_
          clear b1 g1 n1 OO1 hs1
          refine Hb.two 3 9 ?_ ?_
          · skip
            refine Hb.pick 3 (some 52) rfl ?_
            refine wpList_build2 rfl 22 28 (.tmp 51) rfl Try.underlying22 Try.sizeOf28 tz (.int .i64 rx) (.int .i64 ry) rfl ?_
            have b2 : Below y1.heap.size y1 (y1.alloc (.cells #[.int .i64 rx, .int .i64 ry] 28)) := (Below.refl _ _).alloc (Nat.le_refl _) _
            have hx2 := HX.out
            have RA := Lib.hid (RA.out.past b2)
            have KR := Lib.hid (KR.out.past b2)
            have O1 := Lib.hid (O1.out.past b2)
            have N3 := Lib.hid (Rd.one y1 (rx, ry) 28)
            have HX := Lib.hid (Nat.le_trans hx2 b2.size)
            have BT := Lib.hid (BT.out.trans (b2.mono (Nat.le_trans HW.out hx2)))
            refine Hb.next (b2.mono hx2) (Nat.le_refl _) ?_ (by simp only [Act.put, List.setIfInBounds_toArray, List.set_cons_succ, List.set_cons_zero]; rfl)
            clear b2
            generalize y1.alloc (.cells #[.int .i64 rx, .int .i64 ry] 28) = y2 at *
            refine Hb.two 4 9 ?_ ?_
            · skip
              refine Hb.pick 4 (some 53) rfl ?_
              refine wpList_app2 rfl (.tmp 50) (.tmp 52) 22 rfl x0.heap.size 28 _ 2 16 Try.underlying22 crg_info rfl (by omega) AX1 m cX1 (tcs L) rfl O1.out _ _ 1 1 (tcs [(rx, ry)]) rfl N3.out (tcs_one _) ?d1 ?d2 HX.out ?_
              case d1 => unfold maxLen; omega
              case d2 => omega
              intro AY3 cY3 y3 OO3 g3 n3
              have T3 := Touch.of_bk g3
              have b3 : Below x0.heap.size y2 y3 := T3.below (fun x hx => O1.out.low x (mem_bl.1 hx)) HX.out
              have hx3 := HX.out
              have hy3 : y2.heap.size ≤ y3.heap.size := g3.size
              have O4 : Hid (Ow y3 x0.heap.size 28 2 AY3 (m + 1) cY3 (tcs (L ++ [(rx, ry)]))) := Lib.hid (by rw [tcs_app]; exact OO3)
              have RA := Lib.hid (RA.out.below (b3.mono H2.out))
              have KR := Lib.hid (KR.out.below b3 GR.out)
              have HX := Lib.hid (Nat.le_trans hx3 hy3)
              have BT := Lib.hid (BT.out.trans (b3.mono HW.out))
              refine Hb.next b3 (Nat.le_refl _) ?_
              clear b3 g3 n3 OO3 T3 O1 N3 hy3
              refine Hb.two 5 9 ?_ ?_
              · skip
                refine Hb.pickCall (f := 11) (args := #[.slice AY3 (m + 1) cY3]) 5 54 rfl ?_ (run_callf Try.func11 (by kernel_rfl) (by kernel_rfl) (by simp only [List.map_toArray, List.map_cons, List.map_nil]; rfl))
                refine (cBest_c y3 AY3 cY3 (m + 1) (L ++ [(rx, ry)]) O4.out.rd (by omega) HFR.out).mono ?_
                rintro e y4 ⟨lo2, hi2, k2, rfl, b4, hk2, hB2⟩
                unfold rg
                have HB2 := Lib.hid hB2
                clear hB2
                have hx4 := HX.out
                have RA := Lib.hid (RA.out.past b4)
                have KR := Lib.hid (KR.out.past b4)
                have O4 := Lib.hid (O4.out.past b4)
                have HX := Lib.hid (Nat.le_trans hx4 b4.size)
                have BT := Lib.hid (BT.out.trans (b4.mono (Nat.le_trans HW.out hx4)))
                refine Hb.back (b4.mono hx4) (Nat.le_refl _) ?_
                clear b4
                refine Hb.take (v := .tuple #[.agg #[.int .i64 lo2, .int .i64 hi2], .int .i64 k2]) 6 48 rfl ?_ (fun _ _ => rfl)
                refine Hb.take (v := .agg #[.int .i64 lo2, .int .i64 hi2]) 7 55 rfl ?_ (fun w' hw' => by go_simp)
                refine Hb.take (v := .int .i64 k2) 8 56 rfl ?_ (fun w' hw' => by go_simp)
                refine Hb.only 9 (some 13) rfl ?_
                refine wpList_runTo' rfl (.pointer (some ⟨y4.heap.size, 0, none⟩)) (y4.alloc (.cells #[.int .i64 0, .int .i64 0] 28)) (by go_simp) ?_
                have b5 : Below y4.heap.size y4 (y4.alloc (.cells #[.int .i64 0, .int .i64 0] 28)) := (Below.refl _ _).alloc (Nat.le_refl _) _
                have hx5 := HX.out
                have RA := Lib.hid (RA.out.past b5)
                have KR := Lib.hid (KR.out.past b5)
                have O4 := Lib.hid (O4.out.past b5)
                have G9 := Lib.hid (Blk.new y4 #[.int .i64 0, .int .i64 0] 28)
                have L9 := Lib.hid hx5
                have HX := Lib.hid (Nat.le_trans hx5 b5.size)
                have BT := Lib.hid (BT.out.trans (b5.mono (Nat.le_trans HW.out hx5)))
                refine Hb.next (b5.mono hx5) (Nat.le_refl _) ?_ (by simp only [Act.put, List.setIfInBounds_toArray, List.set_cons_succ, List.set_cons_zero]; rfl)
                clear b5
                generalize y4.alloc (.cells #[.int .i64 0, .int .i64 0] 28) = y5 at *
                refine Hb.only 10 (none) rfl ?_
                refine wpList_store_row rfl 28 _ _ rfl (y4.heap.size) _ rfl rfl _ _ G9.out (by kernel_rfl) (by rfl) (by kernel_rfl) ?_
                have gg6 := grown_row y5 (y4.heap.size) #[.int .i64 lo2, .int .i64 hi2]
                have hx6 := HX.out
                have l9 := L9.out
                have b6 := grown_below gg6 l9 hx6
                have RA := Lib.hid (RA.out.below (b6.mono H2.out))
                have KR := Lib.hid (KR.out.below b6 GR.out)
                have BT := Lib.hid (BT.out.trans (b6.mono HW.out))
                refine Hb.next b6 (Nat.le_refl _) ?_
                clear b6 gg6 l9
                refine Hb.take (v := .int .i64 k2) 11 14 rfl ?_ (fun _ _ => rfl)
                refine Hb.done ?_
                go_wp2_with fail
                go_meet
                case rel => exact ⟨lo2, hi2, k2, rfl, hk2, HB2, BT⟩
              · skip
                refine Hb.pick 9 (some 13) rfl ?_
                refine wpList_runTo' rfl (.pointer (some ⟨y3.heap.size, 0, none⟩)) (y3.alloc (.cells #[.int .i64 0, .int .i64 0] 28)) (by go_simp) ?_
                have b7 : Below y3.heap.size y3 (y3.alloc (.cells #[.int .i64 0, .int .i64 0] 28)) := (Below.refl _ _).alloc (Nat.le_refl _) _
                have hx7 := HX.out
                have RA := Lib.hid (RA.out.past b7)
                have KR := Lib.hid (KR.out.past b7)
                have O4 := Lib.hid (O4.out.past b7)
                have G9 := Lib.hid (Blk.new y3 #[.int .i64 0, .int .i64 0] 28)
                have L9 := Lib.hid hx7
                have HX := Lib.hid (Nat.le_trans hx7 b7.size)
                have BT := Lib.hid (BT.out.trans (b7.mono (Nat.le_trans HW.out hx7)))
                refine Hb.next (b7.mono hx7) (Nat.le_refl _) ?_ (by simp only [Act.put, List.setIfInBounds_toArray, List.set_cons_succ, List.set_cons_zero]; rfl)
                clear b7
                generalize y3.alloc (.cells #[.int .i64 0, .int .i64 0] 28) = y7 at *
                refine Hb.call (f := 11) (args := #[.slice AY3 (m + 1) cY3]) 5 54 rfl ?_ (run_callf Try.func11 (by kernel_rfl) (by kernel_rfl) (by simp only [List.map_toArray, List.map_cons, List.map_nil]; rfl))
                refine (cBest_c y7 AY3 cY3 (m + 1) (L ++ [(rx, ry)]) O4.out.rd (by omega) HFR.out).mono ?_
                rintro e y8 ⟨lo2, hi2, k2, rfl, b8, hk2, hB2⟩
                unfold rg
                have HB2 := Lib.hid hB2
                clear hB2
                have hx8 := HX.out
                have RA := Lib.hid (RA.out.past b8)
                have KR := Lib.hid (KR.out.past b8)
                have O4 := Lib.hid (O4.out.past b8)
                have G9 := Lib.hid (G9.out.past b8)
                have HX := Lib.hid (Nat.le_trans hx8 b8.size)
                have BT := Lib.hid (BT.out.trans (b8.mono (Nat.le_trans HW.out hx8)))
                refine Hb.back (b8.mono hx8) (Nat.le_refl _) ?_
                clear b8
                refine Hb.take (v := .tuple #[.agg #[.int .i64 lo2, .int .i64 hi2], .int .i64 k2]) 6 48 rfl ?_ (fun _ _ => rfl)
                refine Hb.take (v := .agg #[.int .i64 lo2, .int .i64 hi2]) 7 55 rfl ?_ (fun w' hw' => by go_simp)
                refine Hb.take (v := .int .i64 k2) 8 56 rfl ?_ (fun w' hw' => by go_simp)
                refine Hb.only 10 (none) rfl ?_
                refine wpList_store_row rfl 28 _ _ rfl (y3.heap.size) _ rfl rfl _ _ G9.out (by kernel_rfl) (by rfl) (by kernel_rfl) ?_
                have gg9 := grown_row y8 (y3.heap.size) #[.int .i64 lo2, .int .i64 hi2]
                have hx9 := HX.out
                have l9 := L9.out
                have b9 := grown_below gg9 l9 hx9
                have RA := Lib.hid (RA.out.below (b9.mono H2.out))
                have KR := Lib.hid (KR.out.below b9 GR.out)
                have BT := Lib.hid (BT.out.trans (b9.mono HW.out))
                refine Hb.next b9 (Nat.le_refl _) ?_
                clear b9 gg9 l9
                refine Hb.take (v := .int .i64 k2) 11 14 rfl ?_ (fun _ _ => rfl)
                refine Hb.done ?_
                go_wp2_with fail
                go_meet
                case rel => exact ⟨lo2, hi2, k2, rfl, hk2, HB2, BT⟩
            · skip
              refine Hb.pick 9 (some 13) rfl ?_
              refine wpList_runTo' rfl (.pointer (some ⟨y2.heap.size, 0, none⟩)) (y2.alloc (.cells #[.int .i64 0, .int .i64 0] 28)) (by go_simp) ?_
              have b10 : Below y2.heap.size y2 (y2.alloc (.cells #[.int .i64 0, .int .i64 0] 28)) := (Below.refl _ _).alloc (Nat.le_refl _) _
              have hx10 := HX.out
              have D9 := Lib.hid (show bk AX1 ≠ some y2.heap.size from fun h => by have := O1.out.hi _ h; omega)
              have RA := Lib.hid (RA.out.past b10)
              have KR := Lib.hid (KR.out.past b10)
              have O1 := Lib.hid (O1.out.past b10)
              have N3 := Lib.hid (N3.out.past b10)
              have G9 := Lib.hid (Blk.new y2 #[.int .i64 0, .int .i64 0] 28)
              have L9 := Lib.hid hx10
              have HX := Lib.hid (Nat.le_trans hx10 b10.size)
              have BT := Lib.hid (BT.out.trans (b10.mono (Nat.le_trans HW.out hx10)))
              refine Hb.next (b10.mono hx10) (Nat.le_refl _) ?_ (by simp only [Act.put, List.setIfInBounds_toArray, List.set_cons_succ, List.set_cons_zero]; rfl)
              clear b10
              generalize y2.alloc (.cells #[.int .i64 0, .int .i64 0] 28) = y10 at *
              refine Hb.only 4 (some 53) rfl ?_
              refine wpList_app2 rfl (.tmp 50) (.tmp 52) 22 rfl x0.heap.size 28 _ 2 16 Try.underlying22 crg_info rfl (by omega) AX1 m cX1 (tcs L) rfl O1.out _ _ 1 1 (tcs [(rx, ry)]) rfl N3.out (tcs_one _) ?d1 ?d2 HX.out ?_
              case d1 => unfold maxLen; omega
              case d2 => omega
              intro AY11 cY11 y11 OO11 g11 n11
              have T11 := Touch.of_bk g11
              have b11 : Below x0.heap.size y10 y11 := T11.below (fun x hx => O1.out.low x (mem_bl.1 hx)) HX.out
              have hx11 := HX.out
              have hy11 : y10.heap.size ≤ y11.heap.size := g11.size
              have O4 : Hid (Ow y11 x0.heap.size 28 2 AY11 (m + 1) cY11 (tcs (L ++ [(rx, ry)]))) := Lib.hid (by rw [tcs_app]; exact OO11)
              have RA := Lib.hid (RA.out.below (b11.mono H2.out))
              have KR := Lib.hid (KR.out.below b11 GR.out)
              have D9b := Lib.hid (show bk AY11 ≠ some (y2.heap.size) from fun h => by have := G9.out.lt; rcases n11 _ h with h | h; (exact D9.out h); omega)
              have G9 := Lib.hid (G9.out.touch T11 (fun hm => D9.out (mem_bl.1 hm)))
              have HX := Lib.hid (Nat.le_trans hx11 hy11)
              have BT := Lib.hid (BT.out.trans (b11.mono HW.out))
              refine Hb.next b11 (Nat.le_refl _) ?_
              clear b11 g11 n11 OO11 T11 O1 N3 hy11
              refine Hb.call (f := 11) (args := #[.slice AY11 (m + 1) cY11]) 5 54 rfl ?_ (run_callf Try.func11 (by kernel_rfl) (by kernel_rfl) (by simp only [List.map_toArray, List.map_cons, List.map_nil]; rfl))
              refine (cBest_c y11 AY11 cY11 (m + 1) (L ++ [(rx, ry)]) O4.out.rd (by omega) HFR.out).mono ?_
              rintro e y12 ⟨lo2, hi2, k2, rfl, b12, hk2, hB2⟩
              unfold rg
              have HB2 := Lib.hid hB2
              clear hB2
              have hx12 := HX.out
              have RA := Lib.hid (RA.out.past b12)
              have KR := Lib.hid (KR.out.past b12)
              have O4 := Lib.hid (O4.out.past b12)
              have G9 := Lib.hid (G9.out.past b12)
              have HX := Lib.hid (Nat.le_trans hx12 b12.size)
              have BT := Lib.hid (BT.out.trans (b12.mono (Nat.le_trans HW.out hx12)))
              refine Hb.back (b12.mono hx12) (Nat.le_refl _) ?_
              clear b12
              refine Hb.take (v := .tuple #[.agg #[.int .i64 lo2, .int .i64 hi2], .int .i64 k2]) 6 48 rfl ?_ (fun _ _ => rfl)
              refine Hb.take (v := .agg #[.int .i64 lo2, .int .i64 hi2]) 7 55 rfl ?_ (fun w' hw' => by go_simp)
              refine Hb.take (v := .int .i64 k2) 8 56 rfl ?_ (fun w' hw' => by go_simp)
              refine Hb.only 10 (none) rfl ?_
              refine wpList_store_row rfl 28 _ _ rfl (y2.heap.size) _ rfl rfl _ _ G9.out (by kernel_rfl) (by rfl) (by kernel_rfl) ?_
              have gg13 := grown_row y12 (y2.heap.size) #[.int .i64 lo2, .int .i64 hi2]
              have hx13 := HX.out
              have l9 := L9.out
              have b13 := grown_below gg13 l9 hx13
              have RA := Lib.hid (RA.out.below (b13.mono H2.out))
              have KR := Lib.hid (KR.out.below b13 GR.out)
              have BT := Lib.hid (BT.out.trans (b13.mono HW.out))
              refine Hb.next b13 (Nat.le_refl _) ?_
              clear b13 gg13 l9
              refine Hb.take (v := .int .i64 k2) 11 14 rfl ?_ (fun _ _ => rfl)
              refine Hb.done ?_
              go_wp2_with fail
              go_meet
              case rel => exact ⟨lo2, hi2, k2, rfl, hk2, HB2, BT⟩
          · skip
            refine Hb.pick 9 (some 13) rfl ?_
            refine wpList_runTo' rfl (.pointer (some ⟨y1.heap.size, 0, none⟩)) (y1.alloc (.cells #[.int .i64 0, .int .i64 0] 28)) (by go_simp) ?_
            have b14 : Below y1.heap.size y1 (y1.alloc (.cells #[.int .i64 0, .int .i64 0] 28)) := (Below.refl _ _).alloc (Nat.le_refl _) _
            have hx14 := HX.out
            have D9 := Lib.hid (show bk AX1 ≠ some y1.heap.size from fun h => by have := O1.out.hi _ h; omega)
            have RA := Lib.hid (RA.out.past b14)
            have KR := Lib.hid (KR.out.past b14)
            have O1 := Lib.hid (O1.out.past b14)
            have G9 := Lib.hid (Blk.new y1 #[.int .i64 0, .int .i64 0] 28)
            have L9 := Lib.hid hx14
            have HX := Lib.hid (Nat.le_trans hx14 b14.size)
            have BT := Lib.hid (BT.out.trans (b14.mono (Nat.le_trans HW.out hx14)))
            refine Hb.next (b14.mono hx14) (Nat.le_refl _) ?_ (by simp only [Act.put, List.setIfInBounds_toArray, List.set_cons_succ, List.set_cons_zero]; rfl)
            clear b14
            generalize y1.alloc (.cells #[.int .i64 0, .int .i64 0] 28) = y14 at *
            refine Hb.only 3 (some 52) rfl ?_
            refine wpList_build2 rfl 22 28 (.tmp 51) rfl Try.underlying22 Try.sizeOf28 tz (.int .i64 rx) (.int .i64 ry) rfl ?_
            have b15 : Below y14.heap.size y14 (y14.alloc (.cells #[.int .i64 rx, .int .i64 ry] 28)) := (Below.refl _ _).alloc (Nat.le_refl _) _
            have hx15 := HX.out
            have RA := Lib.hid (RA.out.past b15)
            have KR := Lib.hid (KR.out.past b15)
            have O1 := Lib.hid (O1.out.past b15)
            have G9 := Lib.hid (G9.out.past b15)
            have N3 := Lib.hid (Rd.one y14 (rx, ry) 28)
            have HX := Lib.hid (Nat.le_trans hx15 b15.size)
            have BT := Lib.hid (BT.out.trans (b15.mono (Nat.le_trans HW.out hx15)))
            refine Hb.next (b15.mono hx15) (Nat.le_refl _) ?_ (by simp only [Act.put, List.setIfInBounds_toArray, List.set_cons_succ, List.set_cons_zero]; rfl)
            clear b15
            generalize y14.alloc (.cells #[.int .i64 rx, .int .i64 ry] 28) = y15 at *
            refine Hb.only 4 (some 53) rfl ?_
            refine wpList_app2 rfl (.tmp 50) (.tmp 52) 22 rfl x0.heap.size 28 _ 2 16 Try.underlying22 crg_info rfl (by omega) AX1 m cX1 (tcs L) rfl O1.out _ _ 1 1 (tcs [(rx, ry)]) rfl N3.out (tcs_one _) ?d1 ?d2 HX.out ?_
            case d1 => unfold maxLen; omega
            case d2 => omega
            intro AY16 cY16 y16 OO16 g16 n16
            have T16 := Touch.of_bk g16
            have b16 : Below x0.heap.size y15 y16 := T16.below (fun x hx => O1.out.low x (mem_bl.1 hx)) HX.out
            have hx16 := HX.out
            have hy16 : y15.heap.size ≤ y16.heap.size := g16.size
            have O4 : Hid (Ow y16 x0.heap.size 28 2 AY16 (m + 1) cY16 (tcs (L ++ [(rx, ry)]))) := Lib.hid (by rw [tcs_app]; exact OO16)
            have RA := Lib.hid (RA.out.below (b16.mono H2.out))
            have KR := Lib.hid (KR.out.below b16 GR.out)
            have D9b := Lib.hid (show bk AY16 ≠ some (y1.heap.size) from fun h => by have := G9.out.lt; rcases n16 _ h with h | h; (exact D9.out h); omega)
            have G9 := Lib.hid (G9.out.touch T16 (fun hm => D9.out (mem_bl.1 hm)))
            have HX := Lib.hid (Nat.le_trans hx16 hy16)
            have BT := Lib.hid (BT.out.trans (b16.mono HW.out))
            refine Hb.next b16 (Nat.le_refl _) ?_
            clear b16 g16 n16 OO16 T16 O1 N3 hy16
            refine Hb.call (f := 11) (args := #[.slice AY16 (m + 1) cY16]) 5 54 rfl ?_ (run_callf Try.func11 (by kernel_rfl) (by kernel_rfl) (by simp only [List.map_toArray, List.map_cons, List.map_nil]; rfl))
            refine (cBest_c y16 AY16 cY16 (m + 1) (L ++ [(rx, ry)]) O4.out.rd (by omega) HFR.out).mono ?_
            rintro e y17 ⟨lo2, hi2, k2, rfl, b17, hk2, hB2⟩
            unfold rg
            have HB2 := Lib.hid hB2
            clear hB2
            have hx17 := HX.out
            have RA := Lib.hid (RA.out.past b17)
            have KR := Lib.hid (KR.out.past b17)
            have O4 := Lib.hid (O4.out.past b17)
            have G9 := Lib.hid (G9.out.past b17)
            have HX := Lib.hid (Nat.le_trans hx17 b17.size)
            have BT := Lib.hid (BT.out.trans (b17.mono (Nat.le_trans HW.out hx17)))
            refine Hb.back (b17.mono hx17) (Nat.le_refl _) ?_
            clear b17
            refine Hb.take (v := .tuple #[.agg #[.int .i64 lo2, .int .i64 hi2], .int .i64 k2]) 6 48 rfl ?_ (fun _ _ => rfl)
            refine Hb.take (v := .agg #[.int .i64 lo2, .int .i64 hi2]) 7 55 rfl ?_ (fun w' hw' => by go_simp)
            refine Hb.take (v := .int .i64 k2) 8 56 rfl ?_ (fun w' hw' => by go_simp)
            refine Hb.only 10 (none) rfl ?_
            refine wpList_store_row rfl 28 _ _ rfl (y1.heap.size) _ rfl rfl _ _ G9.out (by kernel_rfl) (by rfl) (by kernel_rfl) ?_
            have gg18 := grown_row y17 (y1.heap.size) #[.int .i64 lo2, .int .i64 hi2]
            have hx18 := HX.out
            have l9 := L9.out
            have b18 := grown_below gg18 l9 hx18
            have RA := Lib.hid (RA.out.below (b18.mono H2.out))
            have KR := Lib.hid (KR.out.below b18 GR.out)
            have BT := Lib.hid (BT.out.trans (b18.mono HW.out))
            refine Hb.next b18 (Nat.le_refl _) ?_
            clear b18 gg18 l9
            refine Hb.take (v := .int .i64 k2) 11 14 rfl ?_ (fun _ _ => rfl)
            refine Hb.done ?_
            go_wp2_with fail
            go_meet
            case rel => exact ⟨lo2, hi2, k2, rfl, hk2, HB2, BT⟩
        · skip
          refine Hb.pick 3 (some 52) rfl ?_
          refine wpList_build2 rfl 22 28 (.tmp 51) rfl Try.underlying22 Try.sizeOf28 tz (.int .i64 rx) (.int .i64 ry) rfl ?_
          have b19 : Below x0.heap.size x0 (x0.alloc (.cells #[.int .i64 rx, .int .i64 ry] 28)) := (Below.refl _ _).alloc (Nat.le_refl _) _
          have hx19 := HX.out
          have RA := Lib.hid (RA.out.past b19)
          have KR := Lib.hid (KR.out.past b19)
          have N3 := Lib.hid (Rd.one x0 (rx, ry) 28)
          have HX := Lib.hid (Nat.le_trans hx19 b19.size)
          have BT := Lib.hid (BT.out.trans (b19.mono (Nat.le_trans HW.out hx19)))
          refine Hb.next (b19.mono hx19) (Nat.le_refl _) ?_ (by simp only [Act.put, List.setIfInBounds_toArray, List.set_cons_succ, List.set_cons_zero]; rfl)
          clear b19
          generalize x0.alloc (.cells #[.int .i64 rx, .int .i64 ry] 28) = y19 at *
          refine Hb.two 1 9 ?_ ?_
          · skip
            refine Hb.pick 1 (some 50) rfl ?_
            refine wpList_app2 rfl (.const (.slice none 0 0)) (.tmp 49) 22 rfl x0.heap.size 28 _ 2 16 Try.underlying22 crg_info rfl (by omega) none 0 0 [] rfl (Ow.nil _ _ _ _) _ A1 c1 m (tcs L) rfl RA.out (tcs_one _) ?d1 ?d2 HX.out ?_
            case d1 => unfold maxLen; omega
            case d2 => omega
            intro AX20 cX20 y20 OO20 g20 n20
            have b20 : Below y19.heap.size y19 y20 := (Below.refl _ _).grown g20 (Nat.le_refl _) (fun x hx => by cases hx)
            have hx20 := HX.out
            have O1 : Hid (Ow y20 x0.heap.size 28 2 AX20 m cX20 (tcs L)) := Lib.hid (by simpa using OO20)
            have hs20 : y19.heap.size ≤ y20.heap.size := b20.size
            have RA := Lib.hid (RA.out.past b20)
            have KR := Lib.hid (KR.out.past b20)
            have N3 := Lib.hid (N3.out.past b20)
            have HX := Lib.hid (Nat.le_trans hx20 b20.size)
            have BT := Lib.hid (BT.out.trans (b20.mono (Nat.le_trans HW.out hx20)))
            rw [show 0 + m = m by omega]
            refine Hb.next (b20.mono hx20) (Nat.le_refl _) ?_
            clear b20 g20 n20 OO20 hs20
            refine Hb.two 4 9 ?_ ?_
            · skip
              refine Hb.pick 4 (some 53) rfl ?_
              refine wpList_app2 rfl (.tmp 50) (.tmp 52) 22 rfl x0.heap.size 28 _ 2 16 Try.underlying22 crg_info rfl (by omega) AX20 m cX20 (tcs L) rfl O1.out _ _ 1 1 (tcs [(rx, ry)]) rfl N3.out (tcs_one _) ?d1 ?d2 HX.out ?_
              case d1 => unfold maxLen; omega
              case d2 => omega
              intro AY21 cY21 y21 OO21 g21 n21
              have T21 := Touch.of_bk g21
              have b21 : Below x0.heap.size y20 y21 := T21.below (fun x hx => O1.out.low x (mem_bl.1 hx)) HX.out
              have hx21 := HX.out
              have hy21 : y20.heap.size ≤ y21.heap.size := g21.size
              have O4 : Hid (Ow y21 x0.heap.size 28 2 AY21 (m + 1) cY21 (tcs (L ++ [(rx, ry)]))) := Lib.hid (by rw [tcs_app]; exact OO21)
              have RA := Lib.hid (RA.out.below (b21.mono H2.out))
              have KR := Lib.hid (KR.out.below b21 GR.out)
              have HX := Lib.hid (Nat.le_trans hx21 hy21)
              have BT := Lib.hid (BT.out.trans (b21.mono HW.out))
              refine Hb.next b21 (Nat.le_refl _) ?_
              clear b21 g21 n21 OO21 T21 O1 N3 hy21
              refine Hb.two 5 9 ?_ ?_
              · skip
                refine Hb.pickCall (f := 11) (args := #[.slice AY21 (m + 1) cY21]) 5 54 rfl ?_ (run_callf Try.func11 (by kernel_rfl) (by kernel_rfl) (by simp only [List.map_toArray, List.map_cons, List.map_nil]; rfl))
                refine (cBest_c y21 AY21 cY21 (m + 1) (L ++ [(rx, ry)]) O4.out.rd (by omega) HFR.out).mono ?_
                rintro e y22 ⟨lo2, hi2, k2, rfl, b22, hk2, hB2⟩
                unfold rg
                have HB2 := Lib.hid hB2
                clear hB2
                have hx22 := HX.out
                have RA := Lib.hid (RA.out.past b22)
                have KR := Lib.hid (KR.out.past b22)
                have O4 := Lib.hid (O4.out.past b22)
                have HX := Lib.hid (Nat.le_trans hx22 b22.size)
                have BT := Lib.hid (BT.out.trans (b22.mono (Nat.le_trans HW.out hx22)))
                refine Hb.back (b22.mono hx22) (Nat.le_refl _) ?_
                clear b22
                refine Hb.take (v := .tuple #[.agg #[.int .i64 lo2, .int .i64 hi2], .int .i64 k2]) 6 48 rfl ?_ (fun _ _ => rfl)
                refine Hb.take (v := .agg #[.int .i64 lo2, .int .i64 hi2]) 7 55 rfl ?_ (fun w' hw' => by go_simp)
                refine Hb.take (v := .int .i64 k2) 8 56 rfl ?_ (fun w' hw' => by go_simp)
                refine Hb.only 9 (some 13) rfl ?_
                refine wpList_runTo' rfl (.pointer (some ⟨y22.heap.size, 0, none⟩)) (y22.alloc (.cells #[.int .i64 0, .int .i64 0] 28)) (by go_simp) ?_
                have b23 : Below y22.heap.size y22 (y22.alloc (.cells #[.int .i64 0, .int .i64 0] 28)) := (Below.refl _ _).alloc (Nat.le_refl _) _
                have hx23 := HX.out
                have RA := Lib.hid (RA.out.past b23)
                have KR := Lib.hid (KR.out.past b23)
                have O4 := Lib.hid (O4.out.past b23)
                have G9 := Lib.hid (Blk.new y22 #[.int .i64 0, .int .i64 0] 28)
                have L9 := Lib.hid hx23
                have HX := Lib.hid (Nat.le_trans hx23 b23.size)
                have BT := Lib.hid (BT.out.trans (b23.mono (Nat.le_trans HW.out hx23)))
                refine Hb.next (b23.mono hx23) (Nat.le_refl _) ?_ (by simp only [Act.put, List.setIfInBounds_toArray, List.set_cons_succ, List.set_cons_zero]; rfl)
                clear b23
                generalize y22.alloc (.cells #[.int .i64 0, .int .i64 0] 28) = y23 at *
                refine Hb.only 10 (none) rfl ?_
                refine wpList_store_row rfl 28 _ _ rfl (y22.heap.size) _ rfl rfl _ _ G9.out (by kernel_rfl) (by rfl) (by kernel_rfl) ?_
                have gg24 := grown_row y23 (y22.heap.size) #[.int .i64 lo2, .int .i64 hi2]
                have hx24 := HX.out
                have l9 := L9.out
                have b24 := grown_below gg24 l9 hx24
                have RA := Lib.hid (RA.out.below (b24.mono H2.out))
                have KR := Lib.hid (KR.out.below b24 GR.out)
                have BT := Lib.hid (BT.out.trans (b24.mono HW.out))
                refine Hb.next b24 (Nat.le_refl _) ?_
                clear b24 gg24 l9
                refine Hb.take (v := .int .i64 k2) 11 14 rfl ?_ (fun _ _ => rfl)
                refine Hb.done ?_
                go_wp2_with fail
                go_meet
                case rel => exact ⟨lo2, hi2, k2, rfl, hk2, HB2, BT⟩
              · skip
                refine Hb.pick 9 (some 13) rfl ?_
                refine wpList_runTo' rfl (.pointer (some ⟨y21.heap.size, 0, none⟩)) (y21.alloc (.cells #[.int .i64 0, .int .i64 0] 28)) (by go_simp) ?_
                have b25 : Below y21.heap.size y21 (y21.alloc (.cells #[.int .i64 0, .int .i64 0] 28)) := (Below.refl _ _).alloc (Nat.le_refl _) _
                have hx25 := HX.out
                have RA := Lib.hid (RA.out.past b25)
                have KR := Lib.hid (KR.out.past b25)
                have O4 := Lib.hid (O4.out.past b25)
                have G9 := Lib.hid (Blk.new y21 #[.int .i64 0, .int .i64 0] 28)
                have L9 := Lib.hid hx25
                have HX := Lib.hid (Nat.le_trans hx25 b25.size)
                have BT := Lib.hid (BT.out.trans (b25.mono (Nat.le_trans HW.out hx25)))
                refine Hb.next (b25.mono hx25) (Nat.le_refl _) ?_ (by simp only [Act.put, List.setIfInBounds_toArray, List.set_cons_succ, List.set_cons_zero]; rfl)
                clear b25
                generalize y21.alloc (.cells #[.int .i64 0, .int .i64 0] 28) = y25 at *
                refine Hb.call (f := 11) (args := #[.slice AY21 (m + 1) cY21]) 5 54 rfl ?_ (run_callf Try.func11 (by kernel_rfl) (by kernel_rfl) (by simp only [List.map_toArray, List.map_cons, List.map_nil]; rfl))
                refine (cBest_c y25 AY21 cY21 (m + 1) (L ++ [(rx, ry)]) O4.out.rd (by omega) HFR.out).mono ?_
                rintro e y26 ⟨lo2, hi2, k2, rfl, b26, hk2, hB2⟩
                unfold rg
                have HB2 := Lib.hid hB2
                clear hB2
                have hx26 := HX.out
                have RA := Lib.hid (RA.out.past b26)
                have KR := Lib.hid (KR.out.past b26)
                have O4 := Lib.hid (O4.out.past b26)
                have G9 := Lib.hid (G9.out.past b26)
                have HX := Lib.hid (Nat.le_trans hx26 b26.size)
                have BT := Lib.hid (BT.out.trans (b26.mono (Nat.le_trans HW.out hx26)))
                refine Hb.back (b26.mono hx26) (Nat.le_refl _) ?_
                clear b26
                refine Hb.take (v := .tuple #[.agg #[.int .i64 lo2, .int .i64 hi2], .int .i64 k2]) 6 48 rfl ?_ (fun _ _ => rfl)
                refine Hb.take (v := .agg #[.int .i64 lo2, .int .i64 hi2]) 7 55 rfl ?_ (fun w' hw' => by go_simp)
                refine Hb.take (v := .int .i64 k2) 8 56 rfl ?_ (fun w' hw' => by go_simp)
                refine Hb.only 10 (none) rfl ?_
                refine wpList_store_row rfl 28 _ _ rfl (y21.heap.size) _ rfl rfl _ _ G9.out (by kernel_rfl) (by rfl) (by kernel_rfl) ?_
                have gg27 := grown_row y26 (y21.heap.size) #[.int .i64 lo2, .int .i64 hi2]
                have hx27 := HX.out
                have l9 := L9.out
                have b27 := grown_below gg27 l9 hx27
                have RA := Lib.hid (RA.out.below (b27.mono H2.out))
                have KR := Lib.hid (KR.out.below b27 GR.out)
                have BT := Lib.hid (BT.out.trans (b27.mono HW.out))
                refine Hb.next b27 (Nat.le_refl _) ?_
                clear b27 gg27 l9
                refine Hb.take (v := .int .i64 k2) 11 14 rfl ?_ (fun _ _ => rfl)
                refine Hb.done ?_
                go_wp2_with fail
                go_meet
                case rel => exact ⟨lo2, hi2, k2, rfl, hk2, HB2, BT⟩
            · skip
              refine Hb.pick 9 (some 13) rfl ?_
              refine wpList_runTo' rfl (.pointer (some ⟨y20.heap.size, 0, none⟩)) (y20.alloc (.cells #[.int .i64 0, .int .i64 0] 28)) (by go_simp) ?_
              have b28 : Below y20.heap.size y20 (y20.alloc (.cells #[.int .i64 0, .int .i64 0] 28)) := (Below.refl _ _).alloc (Nat.le_refl _) _
              have hx28 := HX.out
              have D9 := Lib.hid (show bk AX20 ≠ some y20.heap.size from fun h => by have := O1.out.hi _ h; omega)
              have RA := Lib.hid (RA.out.past b28)
              have KR := Lib.hid (KR.out.past b28)
              have O1 := Lib.hid (O1.out.past b28)
              have N3 := Lib.hid (N3.out.past b28)
              have G9 := Lib.hid (Blk.new y20 #[.int .i64 0, .int .i64 0] 28)
              have L9 := Lib.hid hx28
              have HX := Lib.hid (Nat.le_trans hx28 b28.size)
              have BT := Lib.hid (BT.out.trans (b28.mono (Nat.le_trans HW.out hx28)))
              refine Hb.next (b28.mono hx28) (Nat.le_refl _) ?_ (by simp only [Act.put, List.setIfInBounds_toArray, List.set_cons_succ, List.set_cons_zero]; rfl)
              clear b28
              generalize y20.alloc (.cells #[.int .i64 0, .int .i64 0] 28) = y28 at *
              refine Hb.only 4 (some 53) rfl ?_
              refine wpList_app2 rfl (.tmp 50) (.tmp 52) 22 rfl x0.heap.size 28 _ 2 16 Try.underlying22 crg_info rfl (by omega) AX20 m cX20 (tcs L) rfl O1.out _ _ 1 1 (tcs [(rx, ry)]) rfl N3.out (tcs_one _) ?d1 ?d2 HX.out ?_
              case d1 => unfold maxLen; omega
              case d2 => omega
              intro AY29 cY29 y29 OO29 g29 n29
              have T29 := Touch.of_bk g29
              have b29 : Below x0.heap.size y28 y29 := T29.below (fun x hx => O1.out.low x (mem_bl.1 hx)) HX.out
              have hx29 := HX.out
              have hy29 : y28.heap.size ≤ y29.heap.size := g29.size
              have O4 : Hid (Ow y29 x0.heap.size 28 2 AY29 (m + 1) cY29 (tcs (L ++ [(rx, ry)]))) := Lib.hid (by rw [tcs_app]; exact OO29)
              have RA := Lib.hid (RA.out.below (b29.mono H2.out))
              have KR := Lib.hid (KR.out.below b29 GR.out)
              have D9b := Lib.hid (show bk AY29 ≠ some (y20.heap.size) from fun h => by have := G9.out.lt; rcases n29 _ h with h | h; (exact D9.out h); omega)
              have G9 := Lib.hid (G9.out.touch T29 (fun hm => D9.out (mem_bl.1 hm)))
              have HX := Lib.hid (Nat.le_trans hx29 hy29)
              have BT := Lib.hid (BT.out.trans (b29.mono HW.out))
              refine Hb.next b29 (Nat.le_refl _) ?_
              clear b29 g29 n29 OO29 T29 O1 N3 hy29
              refine Hb.call (f := 11) (args := #[.slice AY29 (m + 1) cY29]) 5 54 rfl ?_ (run_callf Try.func11 (by kernel_rfl) (by kernel_rfl) (by simp only [List.map_toArray, List.map_cons, List.map_nil]; rfl))
              refine (cBest_c y29 AY29 cY29 (m + 1) (L ++ [(rx, ry)]) O4.out.rd (by omega) HFR.out).mono ?_
              rintro e y30 ⟨lo2, hi2, k2, rfl, b30, hk2, hB2⟩
              unfold rg
              have HB2 := Lib.hid hB2
              clear hB2
              have hx30 := HX.out
              have RA := Lib.hid (RA.out.past b30)
              have KR := Lib.hid (KR.out.past b30)
              have O4 := Lib.hid (O4.out.past b30)
              have G9 := Lib.hid (G9.out.past b30)
              have HX := Lib.hid (Nat.le_trans hx30 b30.size)
              have BT := Lib.hid (BT.out.trans (b30.mono (Nat.le_trans HW.out hx30)))
              refine Hb.back (b30.mono hx30) (Nat.le_refl _) ?_
              clear b30
              refine Hb.take (v := .tuple #[.agg #[.int .i64 lo2, .int .i64 hi2], .int .i64 k2]) 6 48 rfl ?_ (fun _ _ => rfl)
              refine Hb.take (v := .agg #[.int .i64 lo2, .int .i64 hi2]) 7 55 rfl ?_ (fun w' hw' => by go_simp)
              refine Hb.take (v := .int .i64 k2) 8 56 rfl ?_ (fun w' hw' => by go_simp)
              refine Hb.only 10 (none) rfl ?_
              refine wpList_store_row rfl 28 _ _ rfl (y20.heap.size) _ rfl rfl _ _ G9.out (by kernel_rfl) (by rfl) (by kernel_rfl) ?_
              have gg31 := grown_row y30 (y20.heap.size) #[.int .i64 lo2, .int .i64 hi2]
              have hx31 := HX.out
              have l9 := L9.out
              have b31 := grown_below gg31 l9 hx31
              have RA := Lib.hid (RA.out.below (b31.mono H2.out))
              have KR := Lib.hid (KR.out.below b31 GR.out)
              have BT := Lib.hid (BT.out.trans (b31.mono HW.out))
              refine Hb.next b31 (Nat.le_refl _) ?_
              clear b31 gg31 l9
              refine Hb.take (v := .int .i64 k2) 11 14 rfl ?_ (fun _ _ => rfl)
              refine Hb.done ?_
              go_wp2_with fail
              go_meet
              case rel => exact ⟨lo2, hi2, k2, rfl, hk2, HB2, BT⟩
          · skip
            refine Hb.pick 9 (some 13) rfl ?_
            refine wpList_runTo' rfl (.pointer (some ⟨y19.heap.size, 0, none⟩)) (y19.alloc (.cells #[.int .i64 0, .int .i64 0] 28)) (by go_simp) ?_
            have b32 : Below y19.heap.size y19 (y19.alloc (.cells #[.int .i64 0, .int .i64 0] 28)) := (Below.refl _ _).alloc (Nat.le_refl _) _
            have hx32 := HX.out
            have RA := Lib.hid (RA.out.past b32)
            have KR := Lib.hid (KR.out.past b32)
            have N3 := Lib.hid (N3.out.past b32)
            have G9 := Lib.hid (Blk.new y19 #[.int .i64 0, .int .i64 0] 28)
            have L9 := Lib.hid hx32
            have HX := Lib.hid (Nat.le_trans hx32 b32.size)
            have BT := Lib.hid (BT.out.trans (b32.mono (Nat.le_trans HW.out hx32)))
            refine Hb.next (b32.mono hx32) (Nat.le_refl _) ?_ (by simp only [Act.put, List.setIfInBounds_toArray, List.set_cons_succ, List.set_cons_zero]; rfl)
            clear b32
            generalize y19.alloc (.cells #[.int .i64 0, .int .i64 0] 28) = y32 at *
            refine Hb.only 1 (some 50) rfl ?_
            refine wpList_app2 rfl (.const (.slice none 0 0)) (.tmp 49) 22 rfl x0.heap.size 28 _ 2 16 Try.underlying22 crg_info rfl (by omega) none 0 0 [] rfl (Ow.nil _ _ _ _) _ A1 c1 m (tcs L) rfl RA.out (tcs_one _) ?d1 ?d2 HX.out ?_
            case d1 => unfold maxLen; omega
            case d2 => omega
            intro AX33 cX33 y33 OO33 g33 n33
            have b33 : Below y32.heap.size y32 y33 := (Below.refl _ _).grown g33 (Nat.le_refl _) (fun x hx => by cases hx)
            have hx33 := HX.out
            have O1 : Hid (Ow y33 x0.heap.size 28 2 AX33 m cX33 (tcs L)) := Lib.hid (by simpa using OO33)
            have D9 := Lib.hid (show bk AX33 ≠ some (y19.heap.size) from fun h => by have := G9.out.lt; rcases n33 _ h with h | h; (cases h); omega)
            have hs33 : y32.heap.size ≤ y33.heap.size := b33.size
            have RA := Lib.hid (RA.out.past b33)
            have KR := Lib.hid (KR.out.past b33)
            have N3 := Lib.hid (N3.out.past b33)
            have G9 := Lib.hid (G9.out.past b33)
            have HX := Lib.hid (Nat.le_trans hx33 b33.size)
            have BT := Lib.hid (BT.out.trans (b33.mono (Nat.le_trans HW.out hx33)))
            rw [show 0 + m = m by omega]
            refine Hb.next (b33.mono hx33) (Nat.le_refl _) ?_
            clear b33 g33 n33 OO33 hs33
            refine Hb.only 4 (some 53) rfl ?_
            refine wpList_app2 rfl (.tmp 50) (.tmp 52) 22 rfl x0.heap.size 28 _ 2 16 Try.underlying22 crg_info rfl (by omega) AX33 m cX33 (tcs L) rfl O1.out _ _ 1 1 (tcs [(rx, ry)]) rfl N3.out (tcs_one _) ?d1 ?d2 HX.out ?_
            case d1 => unfold maxLen; omega
            case d2 => omega
            intro AY34 cY34 y34 OO34 g34 n34
            have T34 := Touch.of_bk g34
            have b34 : Below x0.heap.size y33 y34 := T34.below (fun x hx => O1.out.low x (mem_bl.1 hx)) HX.out
            have hx34 := HX.out
            have hy34 : y33.heap.size ≤ y34.heap.size := g34.size
            have O4 : Hid (Ow y34 x0.heap.size 28 2 AY34 (m + 1) cY34 (tcs (L ++ [(rx, ry)]))) := Lib.hid (by rw [tcs_app]; exact OO34)
            have RA := Lib.hid (RA.out.below (b34.mono H2.out))
            have KR := Lib.hid (KR.out.below b34 GR.out)
            have D9b := Lib.hid (show bk AY34 ≠ some (y19.heap.size) from fun h => by have := G9.out.lt; rcases n34 _ h with h | h; (exact D9.out h); omega)
            have G9 := Lib.hid (G9.out.touch T34 (fun hm => D9.out (mem_bl.1 hm)))
            have HX := Lib.hid (Nat.le_trans hx34 hy34)
            have BT := Lib.hid (BT.out.trans (b34.mono HW.out))
            refine Hb.next b34 (Nat.le_refl _) ?_
            clear b34 g34 n34 OO34 T34 O1 N3 hy34
            refine Hb.call (f := 11) (args := #[.slice AY34 (m + 1) cY34]) 5 54 rfl ?_ (run_callf Try.func11 (by kernel_rfl) (by kernel_rfl) (by simp only [List.map_toArray, List.map_cons, List.map_nil]; rfl))
            refine (cBest_c y34 AY34 cY34 (m + 1) (L ++ [(rx, ry)]) O4.out.rd (by omega) HFR.out).mono ?_
            rintro e y35 ⟨lo2, hi2, k2, rfl, b35, hk2, hB2⟩
            unfold rg
            have HB2 := Lib.hid hB2
            clear hB2
            have hx35 := HX.out
            have RA := Lib.hid (RA.out.past b35)
            have KR := Lib.hid (KR.out.past b35)
            have O4 := Lib.hid (O4.out.past b35)
            have G9 := Lib.hid (G9.out.past b35)
            have HX := Lib.hid (Nat.le_trans hx35 b35.size)
            have BT := Lib.hid (BT.out.trans (b35.mono (Nat.le_trans HW.out hx35)))
            refine Hb.back (b35.mono hx35) (Nat.le_refl _) ?_
            clear b35
            refine Hb.take (v := .tuple #[.agg #[.int .i64 lo2, .int .i64 hi2], .int .i64 k2]) 6 48 rfl ?_ (fun _ _ => rfl)
            refine Hb.take (v := .agg #[.int .i64 lo2, .int .i64 hi2]) 7 55 rfl ?_ (fun w' hw' => by go_simp)
            refine Hb.take (v := .int .i64 k2) 8 56 rfl ?_ (fun w' hw' => by go_simp)
            refine Hb.only 10 (none) rfl ?_
            refine wpList_store_row rfl 28 _ _ rfl (y19.heap.size) _ rfl rfl _ _ G9.out (by kernel_rfl) (by rfl) (by kernel_rfl) ?_
            have gg36 := grown_row y35 (y19.heap.size) #[.int .i64 lo2, .int .i64 hi2]
            have hx36 := HX.out
            have l9 := L9.out
            have b36 := grown_below gg36 l9 hx36
            have RA := Lib.hid (RA.out.below (b36.mono H2.out))
            have KR := Lib.hid (KR.out.below b36 GR.out)
            have BT := Lib.hid (BT.out.trans (b36.mono HW.out))
            refine Hb.next b36 (Nat.le_refl _) ?_
            clear b36 gg36 l9
            refine Hb.take (v := .int .i64 k2) 11 14 rfl ?_ (fun _ _ => rfl)
            refine Hb.done ?_
            go_wp2_with fail
            go_meet
            case rel => exact ⟨lo2, hi2, k2, rfl, hk2, HB2, BT⟩
        · skip
          refine Hb.pick 9 (some 13) rfl ?_
          refine wpList_runTo' rfl (.pointer (some ⟨x0.heap.size, 0, none⟩)) (x0.alloc (.cells #[.int .i64 0, .int .i64 0] 28)) (by go_simp) ?_
          have b37 : Below x0.heap.size x0 (x0.alloc (.cells #[.int .i64 0, .int .i64 0] 28)) := (Below.refl _ _).alloc (Nat.le_refl _) _
          have hx37 := HX.out
          have RA := Lib.hid (RA.out.past b37)
          have KR := Lib.hid (KR.out.past b37)
          have G9 := Lib.hid (Blk.new x0 #[.int .i64 0, .int .i64 0] 28)
          have L9 := Lib.hid hx37
          have HX := Lib.hid (Nat.le_trans hx37 b37.size)
          have BT := Lib.hid (BT.out.trans (b37.mono (Nat.le_trans HW.out hx37)))
          refine Hb.next (b37.mono hx37) (Nat.le_refl _) ?_ (by simp only [Act.put, List.setIfInBounds_toArray, List.set_cons_succ, List.set_cons_zero]; rfl)
          clear b37
          generalize x0.alloc (.cells #[.int .i64 0, .int .i64 0] 28) = y37 at *
          refine Hb.two 1 3 ?_ ?_
          · skip
            refine Hb.pick 1 (some 50) rfl ?_
            refine wpList_app2 rfl (.const (.slice none 0 0)) (.tmp 49) 22 rfl x0.heap.size 28 _ 2 16 Try.underlying22 crg_info rfl (by omega) none 0 0 [] rfl (Ow.nil _ _ _ _) _ A1 c1 m (tcs L) rfl RA.out (tcs_one _) ?d1 ?d2 HX.out ?_
            case d1 => unfold maxLen; omega
            case d2 => omega
            intro AX38 cX38 y38 OO38 g38 n38
            have b38 : Below y37.heap.size y37 y38 := (Below.refl _ _).grown g38 (Nat.le_refl _) (fun x hx => by cases hx)
            have hx38 := HX.out
            have O1 : Hid (Ow y38 x0.heap.size 28 2 AX38 m cX38 (tcs L)) := Lib.hid (by simpa using OO38)
            have D9 := Lib.hid (show bk AX38 ≠ some (x0.heap.size) from fun h => by have := G9.out.lt; rcases n38 _ h with h | h; (cases h); omega)
            have hs38 : y37.heap.size ≤ y38.heap.size := b38.size
            have RA := Lib.hid (RA.out.past b38)
            have KR := Lib.hid (KR.out.past b38)
            have G9 := Lib.hid (G9.out.past b38)
            have HX := Lib.hid (Nat.le_trans hx38 b38.size)
            have BT := Lib.hid (BT.out.trans (b38.mono (Nat.le_trans HW.out hx38)))
            rw [show 0 + m = m by omega]
            refine Hb.next (b38.mono hx38) (Nat.le_refl _) ?_
            clear b38 g38 n38 OO38 hs38
            refine Hb.only 3 (some 52) rfl ?_
            refine wpList_build2 rfl 22 28 (.tmp 51) rfl Try.underlying22 Try.sizeOf28 tz (.int .i64 rx) (.int .i64 ry) rfl ?_
            have b39 : Below y38.heap.size y38 (y38.alloc (.cells #[.int .i64 rx, .int .i64 ry] 28)) := (Below.refl _ _).alloc (Nat.le_refl _) _
            have hx39 := HX.out
            have RA := Lib.hid (RA.out.past b39)
            have KR := Lib.hid (KR.out.past b39)
            have O1 := Lib.hid (O1.out.past b39)
            have G9 := Lib.hid (G9.out.past b39)
            have N3 := Lib.hid (Rd.one y38 (rx, ry) 28)
            have HX := Lib.hid (Nat.le_trans hx39 b39.size)
            have BT := Lib.hid (BT.out.trans (b39.mono (Nat.le_trans HW.out hx39)))
            refine Hb.next (b39.mono hx39) (Nat.le_refl _) ?_ (by simp only [Act.put, List.setIfInBounds_toArray, List.set_cons_succ, List.set_cons_zero]; rfl)
            clear b39
            generalize y38.alloc (.cells #[.int .i64 rx, .int .i64 ry] 28) = y39 at *
            refine Hb.only 4 (some 53) rfl ?_
            refine wpList_app2 rfl (.tmp 50) (.tmp 52) 22 rfl x0.heap.size 28 _ 2 16 Try.underlying22 crg_info rfl (by omega) AX38 m cX38 (tcs L) rfl O1.out _ _ 1 1 (tcs [(rx, ry)]) rfl N3.out (tcs_one _) ?d1 ?d2 HX.out ?_
            case d1 => unfold maxLen; omega
            case d2 => omega
            intro AY40 cY40 y40 OO40 g40 n40
            have T40 := Touch.of_bk g40
            have b40 : Below x0.heap.size y39 y40 := T40.below (fun x hx => O1.out.low x (mem_bl.1 hx)) HX.out
            have hx40 := HX.out
            have hy40 : y39.heap.size ≤ y40.heap.size := g40.size
            have O4 : Hid (Ow y40 x0.heap.size 28 2 AY40 (m + 1) cY40 (tcs (L ++ [(rx, ry)]))) := Lib.hid (by rw [tcs_app]; exact OO40)
            have RA := Lib.hid (RA.out.below (b40.mono H2.out))
            have KR := Lib.hid (KR.out.below b40 GR.out)
            have D9b := Lib.hid (show bk AY40 ≠ some (x0.heap.size) from fun h => by have := G9.out.lt; rcases n40 _ h with h | h; (exact D9.out h); omega)
            have G9 := Lib.hid (G9.out.touch T40 (fun hm => D9.out (mem_bl.1 hm)))
            have HX := Lib.hid (Nat.le_trans hx40 hy40)
            have BT := Lib.hid (BT.out.trans (b40.mono HW.out))
            refine Hb.next b40 (Nat.le_refl _) ?_
            clear b40 g40 n40 OO40 T40 O1 N3 hy40
            refine Hb.call (f := 11) (args := #[.slice AY40 (m + 1) cY40]) 5 54 rfl ?_ (run_callf Try.func11 (by kernel_rfl) (by kernel_rfl) (by simp only [List.map_toArray, List.map_cons, List.map_nil]; rfl))
            refine (cBest_c y40 AY40 cY40 (m + 1) (L ++ [(rx, ry)]) O4.out.rd (by omega) HFR.out).mono ?_
            rintro e y41 ⟨lo2, hi2, k2, rfl, b41, hk2, hB2⟩
            unfold rg
            have HB2 := Lib.hid hB2
            clear hB2
            have hx41 := HX.out
            have RA := Lib.hid (RA.out.past b41)
            have KR := Lib.hid (KR.out.past b41)
            have O4 := Lib.hid (O4.out.past b41)
            have G9 := Lib.hid (G9.out.past b41)
            have HX := Lib.hid (Nat.le_trans hx41 b41.size)
            have BT := Lib.hid (BT.out.trans (b41.mono (Nat.le_trans HW.out hx41)))
            refine Hb.back (b41.mono hx41) (Nat.le_refl _) ?_
            clear b41
            refine Hb.take (v := .tuple #[.agg #[.int .i64 lo2, .int .i64 hi2], .int .i64 k2]) 6 48 rfl ?_ (fun _ _ => rfl)
            refine Hb.take (v := .agg #[.int .i64 lo2, .int .i64 hi2]) 7 55 rfl ?_ (fun w' hw' => by go_simp)
            refine Hb.take (v := .int .i64 k2) 8 56 rfl ?_ (fun w' hw' => by go_simp)
            refine Hb.only 10 (none) rfl ?_
            refine wpList_store_row rfl 28 _ _ rfl (x0.heap.size) _ rfl rfl _ _ G9.out (by kernel_rfl) (by rfl) (by kernel_rfl) ?_
            have gg42 := grown_row y41 (x0.heap.size) #[.int .i64 lo2, .int .i64 hi2]
            have hx42 := HX.out
            have l9 := L9.out
            have b42 := grown_below gg42 l9 hx42
            have RA := Lib.hid (RA.out.below (b42.mono H2.out))
            have KR := Lib.hid (KR.out.below b42 GR.out)
            have BT := Lib.hid (BT.out.trans (b42.mono HW.out))
            refine Hb.next b42 (Nat.le_refl _) ?_
            clear b42 gg42 l9
            refine Hb.take (v := .int .i64 k2) 11 14 rfl ?_ (fun _ _ => rfl)
            refine Hb.done ?_
            go_wp2_with fail
            go_meet
            case rel => exact ⟨lo2, hi2, k2, rfl, hk2, HB2, BT⟩
          · skip
            refine Hb.pick 3 (some 52) rfl ?_
            refine wpList_build2 rfl 22 28 (.tmp 51) rfl Try.underlying22 Try.sizeOf28 tz (.int .i64 rx) (.int .i64 ry) rfl ?_
            have b43 : Below y37.heap.size y37 (y37.alloc (.cells #[.int .i64 rx, .int .i64 ry] 28)) := (Below.refl _ _).alloc (Nat.le_refl _) _
            have hx43 := HX.out
            have RA := Lib.hid (RA.out.past b43)
            have KR := Lib.hid (KR.out.past b43)
            have G9 := Lib.hid (G9.out.past b43)
            have N3 := Lib.hid (Rd.one y37 (rx, ry) 28)
            have HX := Lib.hid (Nat.le_trans hx43 b43.size)
            have BT := Lib.hid (BT.out.trans (b43.mono (Nat.le_trans HW.out hx43)))
            refine Hb.next (b43.mono hx43) (Nat.le_refl _) ?_ (by simp only [Act.put, List.setIfInBounds_toArray, List.set_cons_succ, List.set_cons_zero]; rfl)
            clear b43
            generalize y37.alloc (.cells #[.int .i64 rx, .int .i64 ry] 28) = y43 at *
            refine Hb.only 1 (some 50) rfl ?_
            refine wpList_app2 rfl (.const (.slice none 0 0)) (.tmp 49) 22 rfl x0.heap.size 28 _ 2 16 Try.underlying22 crg_info rfl (by omega) none 0 0 [] rfl (Ow.nil _ _ _ _) _ A1 c1 m (tcs L) rfl RA.out (tcs_one _) ?d1 ?d2 HX.out ?_
            case d1 => unfold maxLen; omega
            case d2 => omega
            intro AX44 cX44 y44 OO44 g44 n44
            have b44 : Below y43.heap.size y43 y44 := (Below.refl _ _).grown g44 (Nat.le_refl _) (fun x hx => by cases hx)
            have hx44 := HX.out
            have O1 : Hid (Ow y44 x0.heap.size 28 2 AX44 m cX44 (tcs L)) := Lib.hid (by simpa using OO44)
            have D9 := Lib.hid (show bk AX44 ≠ some (x0.heap.size) from fun h => by have := G9.out.lt; rcases n44 _ h with h | h; (cases h); omega)
            have hs44 : y43.heap.size ≤ y44.heap.size := b44.size
            have RA := Lib.hid (RA.out.past b44)
            have KR := Lib.hid (KR.out.past b44)
            have N3 := Lib.hid (N3.out.past b44)
            have G9 := Lib.hid (G9.out.past b44)
            have HX := Lib.hid (Nat.le_trans hx44 b44.size)
            have BT := Lib.hid (BT.out.trans (b44.mono (Nat.le_trans HW.out hx44)))
            rw [show 0 + m = m by omega]
            refine Hb.next (b44.mono hx44) (Nat.le_refl _) ?_
            clear b44 g44 n44 OO44 hs44
            refine Hb.only 4 (some 53) rfl ?_
            refine wpList_app2 rfl (.tmp 50) (.tmp 52) 22 rfl x0.heap.size 28 _ 2 16 Try.underlying22 crg_info rfl (by omega) AX44 m cX44 (tcs L) rfl O1.out _ _ 1 1 (tcs [(rx, ry)]) rfl N3.out (tcs_one _) ?d1 ?d2 HX.out ?_
            case d1 => unfold maxLen; omega
            case d2 => omega
            intro AY45 cY45 y45 OO45 g45 n45
            have T45 := Touch.of_bk g45
            have b45 : Below x0.heap.size y44 y45 := T45.below (fun x hx => O1.out.low x (mem_bl.1 hx)) HX.out
            have hx45 := HX.out
            have hy45 : y44.heap.size ≤ y45.heap.size := g45.size
            have O4 : Hid (Ow y45 x0.heap.size 28 2 AY45 (m + 1) cY45 (tcs (L ++ [(rx, ry)]))) := Lib.hid (by rw [tcs_app]; exact OO45)
            have RA := Lib.hid (RA.out.below (b45.mono H2.out))
            have KR := Lib.hid (KR.out.below b45 GR.out)
            have D9b := Lib.hid (show bk AY45 ≠ some (x0.heap.size) from fun h => by have := G9.out.lt; rcases n45 _ h with h | h; (exact D9.out h); omega)
            have G9 := Lib.hid (G9.out.touch T45 (fun hm => D9.out (mem_bl.1 hm)))
            have HX := Lib.hid (Nat.le_trans hx45 hy45)
            have BT := Lib.hid (BT.out.trans (b45.mono HW.out))
            refine Hb.next b45 (Nat.le_refl _) ?_
            clear b45 g45 n45 OO45 T45 O1 N3 hy45
            refine Hb.call (f := 11) (args := #[.slice AY45 (m + 1) cY45]) 5 54 rfl ?_ (run_callf Try.func11 (by kernel_rfl) (by kernel_rfl) (by simp only [List.map_toArray, List.map_cons, List.map_nil]; rfl))
            refine (cBest_c y45 AY45 cY45 (m + 1) (L ++ [(rx, ry)]) O4.out.rd (by omega) HFR.out).mono ?_
            rintro e y46 ⟨lo2, hi2, k2, rfl, b46, hk2, hB2⟩
            unfold rg
            have HB2 := Lib.hid hB2
            clear hB2
            have hx46 := HX.out
            have RA := Lib.hid (RA.out.past b46)
            have KR := Lib.hid (KR.out.past b46)
            have O4 := Lib.hid (O4.out.past b46)
            have G9 := Lib.hid (G9.out.past b46)
            have HX := Lib.hid (Nat.le_trans hx46 b46.size)
            have BT := Lib.hid (BT.out.trans (b46.mono (Nat.le_trans HW.out hx46)))
            refine Hb.back (b46.mono hx46) (Nat.le_refl _) ?_
            clear b46
            refine Hb.take (v := .tuple #[.agg #[.int .i64 lo2, .int .i64 hi2], .int .i64 k2]) 6 48 rfl ?_ (fun _ _ => rfl)
            refine Hb.take (v := .agg #[.int .i64 lo2, .int .i64 hi2]) 7 55 rfl ?_ (fun w' hw' => by go_simp)
            refine Hb.take (v := .int .i64 k2) 8 56 rfl ?_ (fun w' hw' => by go_simp)
            refine Hb.only 10 (none) rfl ?_
            refine wpList_store_row rfl 28 _ _ rfl (x0.heap.size) _ rfl rfl _ _ G9.out (by kernel_rfl) (by rfl) (by kernel_rfl) ?_
            have gg47 := grown_row y46 (x0.heap.size) #[.int .i64 lo2, .int .i64 hi2]
            have hx47 := HX.out
            have l9 := L9.out
            have b47 := grown_below gg47 l9 hx47
            have RA := Lib.hid (RA.out.below (b47.mono H2.out))
            have KR := Lib.hid (KR.out.below b47 GR.out)
            have BT := Lib.hid (BT.out.trans (b47.mono HW.out))
            refine Hb.next b47 (Nat.le_refl _) ?_
            clear b47 gg47 l9
            refine Hb.take (v := .int .i64 k2) 11 14 rfl ?_ (fun _ _ => rfl)
            refine Hb.done ?_
            go_wp2_with fail
            go_meet
            case rel => exact ⟨lo2, hi2, k2, rfl, hk2, HB2, BT⟩
      case rest =>
        obtain ⟨lo2, hi2, k2, rfl, hk2, HB2, BT2⟩ := hcut
        have z1 : k ≤ k2 := by
          rcases Nat.eq_zero_or_pos k with e | e
          · omega
          · have a := (HB.out.low.some e).1
            have b := HB2.out.low.all lo
            rw [PCross.cnt_app] at b
            omega
        have z2 : k2 ≤ k + 1 := by
          rcases Nat.eq_zero_or_pos k2 with e | e
          · omega
          · have a := (HB2.out.low.some e).1
            have b := HB.out.low.all lo2
            have c := PCross.cnt_le [(rx, ry)] lo2
            rw [PCross.cnt_app] at a
            simp only [List.length_singleton] at c
            omega
        have z3 : (k : Int) ≤ (k2 : Int) := by omega
        have z4 : (k2 : Int) ≤ (k : Int) + 1 := by omega
        clear z1 z2 HB HB2
        by_cases hh : PCross.Has (rx, ry) t
        · have hc := HC.out
          rw [if_pos hh] at hc
          subst hc
          have HH := Lib.hid (decide_eq_true hh)
          rw [HH.out]
          have y1 : (((v : Int) + 1) == (v : Int)) = false := by simp; omega
          clear hh HC
          go_wp2_with fail
          go_ret
          exact ⟨rfl, BT2.out⟩
        · have hc := HC.out
          rw [if_neg hh] at hc
          have hc2 : v2 = v := by omega
          subst hc2
          have HH := Lib.hid (decide_eq_false hh)
          rw [HH.out]
          have y1 : ((v2 : Int) == ((v2 : Int) + 1)) = false := by simp; omega
          clear hh HC hc
          go_wp2_with fail
          go_ret
          exact ⟨rfl, BT2.out⟩
end Go.Proofs.Ytapfdceopbkcgaa
