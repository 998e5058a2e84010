/- The walk of GramWhole. -/
import Derived.Test.YtfijjdahoimoeaaDoorSeg13
import Derived.Test.YtfijjdahoimoeaaDoorSeg14
import Derived.Deep.CutRange
import Derived.Deep.LoopGhost
namespace Go.Proofs.YtfijjdahoimoeaaDoor
open Go.RowKit

theorem at_zero (i : Int) : PGram.at_ PGram.zeroL i = PGram.zero := by
  unfold PGram.at_ PGram.zeroL
  rw [List.getD_eq_getElem?_getD, List.getElem?_replicate]
  split <;> rfl
/-- What a new gram tells. -/
theorem hear_new (me : Int) {m : Msg} (hm : PMsg.May m) : (m.dst = me → PGram.herr me PGram.zeroL (some m) = 0 ∧ PGram.hmsg me PGram.zeroL (some m) = m) ∧ (m.dst ≠ me → PGram.herr me PGram.zeroL (some m) = 1) := by
  have hb : ¬ m.boot < 0 := by have := hm.2.2.2.2.1; omega
  refine ⟨fun h => ?_, fun h => ?_⟩
  · unfold PGram.herr PGram.hmsg
    simp only [h, ne_eq, not_true_eq_false, if_false, at_zero]
    exact ⟨if_neg hb, if_neg hb⟩
  · unfold PGram.herr
    simp only [h, ne_eq, not_false_eq_true, if_true]

set_option maxHeartbeats 16000000 in
set_option maxRecDepth 100000 in
theorem GramWhole_w (w : World) (ht : Tab w) (m : Msg) (A : Option Addr) (c : Nat) (h : Rd w w.heap.size A c 7 m.es.length (els m.es)) :
    Calls Tryd.prog 7 #[mv m A c] w fun e w' => e = .returned (.bool true) ∧ Below w.heap.size w w' := by
  have HT := Lib.hid ht
  have HR := Lib.hid h
  have b1 := (Below.refl w.heap.size w).alloc (Nat.le_refl _) (.cells #[.int .i64 m.kind, .int .i64 m.fr, .int .i64 m.dst, .int .i64 m.boot, .int .i64 m.view, .int .i64 m.last, .int .i64 m.mem, .int .i64 m.pos, .slice A m.es.length c, .int .i64 m.com, .int .i64 m.num, .int .i64 m.clk, .bool m.yes] 30)
  have K0 := Blk.new w #[.int .i64 m.kind, .int .i64 m.fr, .int .i64 m.dst, .int .i64 m.boot, .int .i64 m.view, .int .i64 m.last, .int .i64 m.mem, .int .i64 m.pos, .slice A m.es.length c, .int .i64 m.com, .int .i64 m.num, .int .i64 m.clk, .bool m.yes] 30
  clear ht h
  show Calls _ _ #[.agg #[.int .i64 m.kind, .int .i64 m.fr, .int .i64 m.dst, .int .i64 m.boot, .int .i64 m.view, .int .i64 m.last, .int .i64 m.mem, .int .i64 m.pos, .slice A m.es.length c, .int .i64 m.com, .int .i64 m.num, .int .i64 m.clk, .bool m.yes]] _ _
  go_enter Tryd.func7, Tryd.ntmps7
  go_wp2_with fail
  generalize w.alloc (.cells #[.int .i64 m.kind, .int .i64 m.fr, .int .i64 m.dst, .int .i64 m.boot, .int .i64 m.view, .int .i64 m.last, .int .i64 m.mem, .int .i64 m.pos, .slice A m.es.length c, .int .i64 m.com, .int .i64 m.num, .int .i64 m.clk, .bool m.yes] 30) = w1 at *
  have K1 := Lib.hid (show Blk w1 w.heap.size 30 (mcs m A c) from K0)
  have BL1 := Lib.hid b1
  clear K0 b1
  refine (begunG_c w1 (HT.out.past BL1.out)).mono ?_
  rintro x w2 ⟨rfl, b2⟩
  have K2 := Lib.hid (K1.out.past b2)
  have BL2 := Lib.hid (BL1.out.trans (b2.mono BL1.out.size))
  have k8 := K2.out.cell (i := 8) rfl
  clear b2 K1 BL1
  by_cases hlen : 60 < m.es.length
  · have t1 : decide ((60 : Int) < (m.es.length : Int)) = true := decide_eq_true (by omega)
    clear hlen
    go_wp2_with fail
    go_ret
    exact ⟨rfl, BL2.out⟩
  have t1 : decide ((60 : Int) < (m.es.length : Int)) = false := decide_eq_false (by omega)
  clear hlen
  go_wp2_with ((with_reducible show wpList _ _ _ ((⟨some 15, Op.load _ _, _, _, _, _⟩ : Oper) :: _) _ _); go_must (refine wpList_unguard rfl ?_; refine wpList_load_row rfl 30 (.tmp 1) rfl w.heap.size rfl 30 #[.int .i64 m.kind, .int .i64 m.fr, .int .i64 m.dst, .int .i64 m.boot, .int .i64 m.view, .int .i64 m.last, .int .i64 m.mem, .int .i64 m.pos, .slice A m.es.length c, .int .i64 m.com, .int .i64 m.num, .int .i64 m.clk, .bool m.yes] (0, 0) _ (show Blk _ w.heap.size 30 (mcs m A c) from K2.out) Tryd.underlying30 rfl (by kernel_rfl) ?_))
  refine (show Calls _ _ #[.agg #[.int .i64 m.kind, .int .i64 m.fr, .int .i64 m.dst, .int .i64 m.boot, .int .i64 m.view, .int .i64 m.last, .int .i64 m.mem, .int .i64 m.pos, .slice A m.es.length c, .int .i64 m.com, .int .i64 m.num, .int .i64 m.clk, .bool m.yes]] w2 _ from rMayM_c w2 m A c ((HR.out.past BL2.out).tight)).mono ?_
  cases hy : PMsg.may m
  · rintro x w3 ⟨rfl, b3⟩
    have BL3 := Lib.hid (BL2.out.trans (b3.mono BL2.out.size))
    clear b3 k8 K2 hy
    go_wp2_with fail
    go_ret
    exact ⟨rfl, BL3.out⟩
  have HM := Lib.hid ((PMsg.may_iff m).1 hy)
  have HSD := Lib.hid ((dec_said m).trans (if_pos hy))
  have HEL := Lib.hid (PMsg.enc_len m)
  have HEB := Lib.hid (PMsg.enc_byte m)
  rintro x w3 ⟨rfl, b3⟩
  have BL3 := Lib.hid (BL2.out.trans (b3.mono BL2.out.size))
  have K3 := Lib.hid (K2.out.past b3)
  clear b3 k8 K2 hy BL2 t1
  go_wp2_with fail
  generalize hgm : w.heap.size = gm at K3 ⊢
  clear hgm
  go_loopg [4] 7 (fun k s4 wr => ∃ (i : Nat), k = 7 - i ∧ i ≤ 7 ∧ s4 = .int .i64 ((i : Int) + 1) ∧ Hid (Below w.heap.size w wr) ∧ Hid (Blk wr gm 30 (mcs m A c)))
  case atStart => exact ⟨0, by omega, by omega, rfl, BL3, K3⟩
  case round =>
    clear BL3 K3
    obtain ⟨i, rfl, hi7, rfl, BT, K⟩ := hrel
    by_cases hlt : i < 7
    · have HID := Lib.hid (show PGram.isId ((i : Int) + 1) = true from PGram.isId_of hlt)
      obtain ⟨X, hX⟩ : ∃ X, PGram.hmsg ((i : Int) + 1) PGram.zeroL (some m) = X := ⟨_, rfl⟩
      obtain ⟨E, hE⟩ : ∃ E, PGram.herr ((i : Int) + 1) PGram.zeroL (some m) = E := ⟨_, rfl⟩
      have HXE := Lib.hid (And.intro hX hE)
      have hj : ((i : Int) + 1 ≤ 7) := by omega
      clear hX hE
      go_upto_region 9 with fail
      go_cut [5, 6] from 23 to 47 (fun s5 s6 wx => ∃ (gx : Nat) (A' : Option Addr) (c' : Nat), s5 = .pointer (some ⟨gx, 0, none⟩) ∧ s6 = .int .i64 E ∧ Hid (Blk wx gx 30 (mcs X A' c')) ∧ Hid (Rd wx wx.heap.size A' c' 7 X.es.length (els X.es)) ∧ Hid (Blk wx gm 30 (mcs m A c)) ∧ Hid (Below w.heap.size w wx))
      case first =>
        refine Hb.begin ?_
        have K := Lib.hid (show Blk wr.drew gm 30 (mcs m A c) from K.out)
        have BT := Lib.hid (show Below w.heap.size w wr.drew from BT.out.drew)
        have GR := Lib.hid (show gm < wr.drew.heap.size from K.out.lt)
        have HW := Lib.hid (show w.heap.size ≤ wr.drew.heap.size from BT.out.size)
        show Hb _ _ _ wr.drew.heap.size _ _ _ wr.drew
        generalize wr.drew = x0 at *
        have HX := Lib.hid (Nat.le_refl x0.heap.size)
        refine Hb.take (v := .int .i64 ((i : Int) + 1)) 0 24 rfl ?_ (fun _ _ => rfl)
        refine Hb.take (v := mv m A c) 2 26 rfl ?_ (fun w' hw' => by exact run_loadM (K.out.below hw' GR.out) rfl)
        refine Hb.two 1 8 ?_ ?_
        · skip
          refine Hb.pickCall (f := 9) (args := #[.int .i64 ((i : Int) + 1)]) 1 25 rfl ?_ (run_callf Tryd.func9 (by kernel_rfl) (by kernel_rfl) (by simp only [List.map_toArray, List.map_cons, List.map_nil]; rfl))
          refine (gNew_yes x0 _ HID.out).mono ?_
          rintro e y1 ⟨rfl, g1, b1⟩
          have HG := Lib.hid HX.out
          have hx1 := HX.out
          have K := Lib.hid (K.out.past b1)
          have HX := Lib.hid (Nat.le_trans hx1 b1.size)
          have BT := Lib.hid (BT.out.trans (b1.mono (Nat.le_trans HW.out hx1)))
          refine Hb.back (b1.mono hx1) (Nat.le_refl _) ?_
          have G := Lib.hid g1
          clear g1 b1
          refine Hb.two 3 8 ?_ ?_
          · skip
            refine Hb.pickCall (f := 12) (args := #[mv m A c]) 3 27 rfl ?_ (run_callf Tryd.func12 (by kernel_rfl) (by kernel_rfl) (by simp only [List.map_toArray, List.map_cons, List.map_nil]; rfl))
            refine (rBytes_c y1 m A c ((HR.out.past BT.out).tight)).mono ?_
            rintro e y2 ⟨A2, c2, rfl, o2, b2⟩
            have hx2 := HX.out
            have K := Lib.hid (K.out.past b2)
            have G := Lib.hid (G.out.past b2)
            have HX := Lib.hid (Nat.le_trans hx2 b2.size)
            have BT := Lib.hid (BT.out.trans (b2.mono (Nat.le_trans HW.out hx2)))
            refine Hb.back (b2.mono hx2) (Nat.le_refl _) ?_
            have R := Lib.hid (Rd.of_own o2)
            clear o2 b2
            refine Hb.two 4 8 ?_ ?_
            · skip
              refine Hb.pickCall (f := 11) (args := #[.pointer (some ⟨x0.heap.size, 0, none⟩), .slice A2 (PMsg.enc m).length c2]) 4 28 rfl ?_ (run_callf Tryd.func11 (by kernel_rfl) (by kernel_rfl) (by simp only [List.map_toArray, List.map_cons, List.map_nil]; rfl))
              have e1 := hear_c y2 _ ((i : Int) + 1) PGram.zeroL A2 c2 _ _ G.out R.out.tight HEB.out (HT.out.past BT.out) (by have := HEL.out; omega)
              rw [HSD.out] at e1
              unfold HearPost at e1
              rw [HXE.out.1, HXE.out.2] at e1
              refine e1.mono ?_
              clear e1
              rintro e y3 ⟨A3, c3, rfl, o3, g3, t3⟩
              have b3 : Below x0.heap.size y2 y3 := t3.below (fun q hq => by obtain rfl := List.mem_singleton.1 hq; exact HG.out) HX.out
              have hx3 := HX.out
              have O := Lib.hid (own_base o3 (show x0.heap.size ≤ y2.heap.size from HX.out))
              have K := Lib.hid (K.out.below b3 GR.out)
              have HX := Lib.hid (Nat.le_trans hx3 t3.size)
              have BT := Lib.hid (BT.out.trans (b3.mono HW.out))
              refine Hb.back b3 (Nat.le_refl _) ?_
              clear o3 g3 t3 b3 G R HG
              refine Hb.take (v := .tuple #[mv X A3 c3, .int .i64 E]) 5 23 rfl ?_ (fun _ _ => rfl)
              refine Hb.take (v := mv X A3 c3) 6 29 rfl ?_ (fun w' hw' => by go_simp)
              refine Hb.take (v := .int .i64 E) 7 30 rfl ?_ (fun w' hw' => by go_simp)
              refine Hb.only 8 (some 5) rfl ?_
              refine wpList_runTo' rfl (.pointer (some ⟨y3.heap.size, 0, none⟩)) (y3.alloc (.cells #[.int .i64 0, .int .i64 0, .int .i64 0, .int .i64 0, .int .i64 0, .int .i64 0, .int .i64 0, .int .i64 0, .slice none 0 0, .int .i64 0, .int .i64 0, .int .i64 0, .bool false] 30)) (by go_simp) ?_
              have b4 : Below y3.heap.size y3 (y3.alloc (.cells #[.int .i64 0, .int .i64 0, .int .i64 0, .int .i64 0, .int .i64 0, .int .i64 0, .int .i64 0, .int .i64 0, .slice none 0 0, .int .i64 0, .int .i64 0, .int .i64 0, .bool false] 30)) := (Below.refl _ _).alloc (Nat.le_refl _) _
              have L8 := Lib.hid HX.out
              have hx4 := HX.out
              have K := Lib.hid (K.out.past b4)
              have O := Lib.hid (own_touch O.out (S := []) (Touch.of_below b4) (by simp))
              have HX := Lib.hid (Nat.le_trans hx4 b4.size)
              have BT := Lib.hid (BT.out.trans (b4.mono (Nat.le_trans HW.out hx4)))
              refine Hb.next (b4.mono hx4) (Nat.le_refl _) ?_ (by simp only [Act.put, List.setIfInBounds_toArray, List.set_cons_succ, List.set_cons_zero]; rfl)
              have N := Lib.hid (show Blk (y3.alloc (.cells #[.int .i64 0, .int .i64 0, .int .i64 0, .int .i64 0, .int .i64 0, .int .i64 0, .int .i64 0, .int .i64 0, .slice none 0 0, .int .i64 0, .int .i64 0, .int .i64 0, .bool false] 30)) y3.heap.size 30 (mcs zeroM none 0) from Blk.new y3 #[.int .i64 0, .int .i64 0, .int .i64 0, .int .i64 0, .int .i64 0, .int .i64 0, .int .i64 0, .int .i64 0, .slice none 0 0, .int .i64 0, .int .i64 0, .int .i64 0, .bool false] 30)
              clear b4
              generalize y3.alloc (.cells #[.int .i64 0, .int .i64 0, .int .i64 0, .int .i64 0, .int .i64 0, .int .i64 0, .int .i64 0, .int .i64 0, .slice none 0 0, .int .i64 0, .int .i64 0, .int .i64 0, .bool false] 30) = y4 at *
              refine Hb.only 9 none rfl ?_
              refine wpList_store_row rfl 30 (.tmp 5) (.tmp 29) rfl (y3.heap.size) _ rfl rfl _ _ N.out (by kernel_rfl) (by rfl) (by kernel_rfl) ?_
              have gg := grown_row y4 (y3.heap.size) #[.int .i64 X.kind, .int .i64 X.fr, .int .i64 X.dst, .int .i64 X.boot, .int .i64 X.view, .int .i64 X.last, .int .i64 X.mem, .int .i64 X.pos, .slice A3 X.es.length c3, .int .i64 X.com, .int .i64 X.num, .int .i64 X.clk, .bool X.yes]
              have hx5 := HX.out
              have b5 : Below x0.heap.size y4 _ := grown_below gg L8.out HX.out
              have K := Lib.hid (K.out.below b5 GR.out)
              have O := Lib.hid (own_touch O.out (Touch.of_grown gg) (fun s hs zs hz => by
                obtain rfl := List.mem_singleton.1 hs
                exact Blk.ne N.out hz (by decide) rfl))
              have N := Lib.hid (Blk.row N.out #[.int .i64 X.kind, .int .i64 X.fr, .int .i64 X.dst, .int .i64 X.boot, .int .i64 X.view, .int .i64 X.last, .int .i64 X.mem, .int .i64 X.pos, .slice A3 X.es.length c3, .int .i64 X.com, .int .i64 X.num, .int .i64 X.clk, .bool X.yes])
              have BT := Lib.hid (BT.out.trans (b5.mono HW.out))
              refine Hb.next b5 (Nat.le_refl _) ?_
              clear b5 gg
              refine Hb.take (v := .int .i64 E) 10 6 rfl ?_ (fun _ _ => rfl)
              refine Hb.done ?_
              go_wp2_with fail
              go_meet
              case rel => exact ⟨_, A3, c3, rfl, rfl, N, Lib.hid (Rd.of_own O.out), K, BT⟩
            · skip
              refine Hb.pick 8 (some 5) rfl ?_
              refine wpList_runTo' rfl (.pointer (some ⟨y2.heap.size, 0, none⟩)) (y2.alloc (.cells #[.int .i64 0, .int .i64 0, .int .i64 0, .int .i64 0, .int .i64 0, .int .i64 0, .int .i64 0, .int .i64 0, .slice none 0 0, .int .i64 0, .int .i64 0, .int .i64 0, .bool false] 30)) (by go_simp) ?_
              have b6 : Below y2.heap.size y2 (y2.alloc (.cells #[.int .i64 0, .int .i64 0, .int .i64 0, .int .i64 0, .int .i64 0, .int .i64 0, .int .i64 0, .int .i64 0, .slice none 0 0, .int .i64 0, .int .i64 0, .int .i64 0, .bool false] 30)) := (Below.refl _ _).alloc (Nat.le_refl _) _
              have L8 := Lib.hid HX.out
              have hx6 := HX.out
              have K := Lib.hid (K.out.past b6)
              have G := Lib.hid (G.out.past b6)
              have R := Lib.hid (R.out.past b6)
              have HX := Lib.hid (Nat.le_trans hx6 b6.size)
              have BT := Lib.hid (BT.out.trans (b6.mono (Nat.le_trans HW.out hx6)))
              refine Hb.next (b6.mono hx6) (Nat.le_refl _) ?_ (by simp only [Act.put, List.setIfInBounds_toArray, List.set_cons_succ, List.set_cons_zero]; rfl)
              have N := Lib.hid (show Blk (y2.alloc (.cells #[.int .i64 0, .int .i64 0, .int .i64 0, .int .i64 0, .int .i64 0, .int .i64 0, .int .i64 0, .int .i64 0, .slice none 0 0, .int .i64 0, .int .i64 0, .int .i64 0, .bool false] 30)) y2.heap.size 30 (mcs zeroM none 0) from Blk.new y2 #[.int .i64 0, .int .i64 0, .int .i64 0, .int .i64 0, .int .i64 0, .int .i64 0, .int .i64 0, .int .i64 0, .slice none 0 0, .int .i64 0, .int .i64 0, .int .i64 0, .bool false] 30)
              clear b6
              generalize y2.alloc (.cells #[.int .i64 0, .int .i64 0, .int .i64 0, .int .i64 0, .int .i64 0, .int .i64 0, .int .i64 0, .int .i64 0, .slice none 0 0, .int .i64 0, .int .i64 0, .int .i64 0, .bool false] 30) = y6 at *
              refine Hb.call (f := 11) (args := #[.pointer (some ⟨x0.heap.size, 0, none⟩), .slice A2 (PMsg.enc m).length c2]) 4 28 rfl ?_ (run_callf Tryd.func11 (by kernel_rfl) (by kernel_rfl) (by simp only [List.map_toArray, List.map_cons, List.map_nil]; rfl))
              have e1 := hear_c y6 _ ((i : Int) + 1) PGram.zeroL A2 c2 _ _ G.out R.out.tight HEB.out (HT.out.past BT.out) (by have := HEL.out; omega)
              rw [HSD.out] at e1
              unfold HearPost at e1
              rw [HXE.out.1, HXE.out.2] at e1
              refine e1.mono ?_
              clear e1
              rintro e y7 ⟨A7, c7, rfl, o7, g7, t7⟩
              have b7 : Below x0.heap.size y6 y7 := t7.below (fun q hq => by obtain rfl := List.mem_singleton.1 hq; exact HG.out) HX.out
              have hx7 := HX.out
              have O := Lib.hid (own_base o7 (show x0.heap.size ≤ y6.heap.size from HX.out))
              have K := Lib.hid (K.out.below b7 GR.out)
              have N := Lib.hid (Blk.touch N.out t7 (by simpa using Blk.ne N.out G.out.1 (by decide)))
              have HX := Lib.hid (Nat.le_trans hx7 t7.size)
              have BT := Lib.hid (BT.out.trans (b7.mono HW.out))
              refine Hb.back b7 (Nat.le_refl _) ?_
              clear o7 g7 t7 b7 G R HG
              refine Hb.take (v := .tuple #[mv X A7 c7, .int .i64 E]) 5 23 rfl ?_ (fun _ _ => rfl)
              refine Hb.take (v := mv X A7 c7) 6 29 rfl ?_ (fun w' hw' => by go_simp)
              refine Hb.take (v := .int .i64 E) 7 30 rfl ?_ (fun w' hw' => by go_simp)
              refine Hb.only 9 none rfl ?_
              refine wpList_store_row rfl 30 (.tmp 5) (.tmp 29) rfl (y2.heap.size) _ rfl rfl _ _ N.out (by kernel_rfl) (by rfl) (by kernel_rfl) ?_
              have gg := grown_row y7 (y2.heap.size) #[.int .i64 X.kind, .int .i64 X.fr, .int .i64 X.dst, .int .i64 X.boot, .int .i64 X.view, .int .i64 X.last, .int .i64 X.mem, .int .i64 X.pos, .slice A7 X.es.length c7, .int .i64 X.com, .int .i64 X.num, .int .i64 X.clk, .bool X.yes]
              have hx8 := HX.out
              have b8 : Below x0.heap.size y7 _ := grown_below gg L8.out HX.out
              have K := Lib.hid (K.out.below b8 GR.out)
              have O := Lib.hid (own_touch O.out (Touch.of_grown gg) (fun s hs zs hz => by
                obtain rfl := List.mem_singleton.1 hs
                exact Blk.ne N.out hz (by decide) rfl))
              have N := Lib.hid (Blk.row N.out #[.int .i64 X.kind, .int .i64 X.fr, .int .i64 X.dst, .int .i64 X.boot, .int .i64 X.view, .int .i64 X.last, .int .i64 X.mem, .int .i64 X.pos, .slice A7 X.es.length c7, .int .i64 X.com, .int .i64 X.num, .int .i64 X.clk, .bool X.yes])
              have BT := Lib.hid (BT.out.trans (b8.mono HW.out))
              refine Hb.next b8 (Nat.le_refl _) ?_
              clear b8 gg
              refine Hb.take (v := .int .i64 E) 10 6 rfl ?_ (fun _ _ => rfl)
              refine Hb.done ?_
              go_wp2_with fail
              go_meet
              case rel => exact ⟨_, A7, c7, rfl, rfl, N, Lib.hid (Rd.of_own O.out), K, BT⟩
          · skip
            refine Hb.pick 8 (some 5) rfl ?_
            refine wpList_runTo' rfl (.pointer (some ⟨y1.heap.size, 0, none⟩)) (y1.alloc (.cells #[.int .i64 0, .int .i64 0, .int .i64 0, .int .i64 0, .int .i64 0, .int .i64 0, .int .i64 0, .int .i64 0, .slice none 0 0, .int .i64 0, .int .i64 0, .int .i64 0, .bool false] 30)) (by go_simp) ?_
            have b9 : Below y1.heap.size y1 (y1.alloc (.cells #[.int .i64 0, .int .i64 0, .int .i64 0, .int .i64 0, .int .i64 0, .int .i64 0, .int .i64 0, .int .i64 0, .slice none 0 0, .int .i64 0, .int .i64 0, .int .i64 0, .bool false] 30)) := (Below.refl _ _).alloc (Nat.le_refl _) _
            have L8 := Lib.hid HX.out
            have hx9 := HX.out
            have K := Lib.hid (K.out.past b9)
            have G := Lib.hid (G.out.past b9)
            have HX := Lib.hid (Nat.le_trans hx9 b9.size)
            have BT := Lib.hid (BT.out.trans (b9.mono (Nat.le_trans HW.out hx9)))
            refine Hb.next (b9.mono hx9) (Nat.le_refl _) ?_ (by simp only [Act.put, List.setIfInBounds_toArray, List.set_cons_succ, List.set_cons_zero]; rfl)
            have N := Lib.hid (show Blk (y1.alloc (.cells #[.int .i64 0, .int .i64 0, .int .i64 0, .int .i64 0, .int .i64 0, .int .i64 0, .int .i64 0, .int .i64 0, .slice none 0 0, .int .i64 0, .int .i64 0, .int .i64 0, .bool false] 30)) y1.heap.size 30 (mcs zeroM none 0) from Blk.new y1 #[.int .i64 0, .int .i64 0, .int .i64 0, .int .i64 0, .int .i64 0, .int .i64 0, .int .i64 0, .int .i64 0, .slice none 0 0, .int .i64 0, .int .i64 0, .int .i64 0, .bool false] 30)
            clear b9
            generalize y1.alloc (.cells #[.int .i64 0, .int .i64 0, .int .i64 0, .int .i64 0, .int .i64 0, .int .i64 0, .int .i64 0, .int .i64 0, .slice none 0 0, .int .i64 0, .int .i64 0, .int .i64 0, .bool false] 30) = y9 at *
            refine Hb.call (f := 12) (args := #[mv m A c]) 3 27 rfl ?_ (run_callf Tryd.func12 (by kernel_rfl) (by kernel_rfl) (by simp only [List.map_toArray, List.map_cons, List.map_nil]; rfl))
            refine (rBytes_c y9 m A c ((HR.out.past BT.out).tight)).mono ?_
            rintro e y10 ⟨A10, c10, rfl, o10, b10⟩
            have hx10 := HX.out
            have K := Lib.hid (K.out.past b10)
            have G := Lib.hid (G.out.past b10)
            have N := Lib.hid (N.out.past b10)
            have HX := Lib.hid (Nat.le_trans hx10 b10.size)
            have BT := Lib.hid (BT.out.trans (b10.mono (Nat.le_trans HW.out hx10)))
            refine Hb.back (b10.mono hx10) (Nat.le_refl _) ?_
            have R := Lib.hid (Rd.of_own o10)
            clear o10 b10
            refine Hb.call (f := 11) (args := #[.pointer (some ⟨x0.heap.size, 0, none⟩), .slice A10 (PMsg.enc m).length c10]) 4 28 rfl ?_ (run_callf Tryd.func11 (by kernel_rfl) (by kernel_rfl) (by simp only [List.map_toArray, List.map_cons, List.map_nil]; rfl))
            have e1 := hear_c y10 _ ((i : Int) + 1) PGram.zeroL A10 c10 _ _ G.out R.out.tight HEB.out (HT.out.past BT.out) (by have := HEL.out; omega)
            rw [HSD.out] at e1
            unfold HearPost at e1
            rw [HXE.out.1, HXE.out.2] at e1
            refine e1.mono ?_
            clear e1
            rintro e y11 ⟨A11, c11, rfl, o11, g11, t11⟩
            have b11 : Below x0.heap.size y10 y11 := t11.below (fun q hq => by obtain rfl := List.mem_singleton.1 hq; exact HG.out) HX.out
            have hx11 := HX.out
            have O := Lib.hid (own_base o11 (show x0.heap.size ≤ y10.heap.size from HX.out))
            have K := Lib.hid (K.out.below b11 GR.out)
            have N := Lib.hid (Blk.touch N.out t11 (by simpa using Blk.ne N.out G.out.1 (by decide)))
            have HX := Lib.hid (Nat.le_trans hx11 t11.size)
            have BT := Lib.hid (BT.out.trans (b11.mono HW.out))
            refine Hb.back b11 (Nat.le_refl _) ?_
            clear o11 g11 t11 b11 G R HG
            refine Hb.take (v := .tuple #[mv X A11 c11, .int .i64 E]) 5 23 rfl ?_ (fun _ _ => rfl)
            refine Hb.take (v := mv X A11 c11) 6 29 rfl ?_ (fun w' hw' => by go_simp)
            refine Hb.take (v := .int .i64 E) 7 30 rfl ?_ (fun w' hw' => by go_simp)
            refine Hb.only 9 none rfl ?_
            refine wpList_store_row rfl 30 (.tmp 5) (.tmp 29) rfl (y1.heap.size) _ rfl rfl _ _ N.out (by kernel_rfl) (by rfl) (by kernel_rfl) ?_
            have gg := grown_row y11 (y1.heap.size) #[.int .i64 X.kind, .int .i64 X.fr, .int .i64 X.dst, .int .i64 X.boot, .int .i64 X.view, .int .i64 X.last, .int .i64 X.mem, .int .i64 X.pos, .slice A11 X.es.length c11, .int .i64 X.com, .int .i64 X.num, .int .i64 X.clk, .bool X.yes]
            have hx12 := HX.out
            have b12 : Below x0.heap.size y11 _ := grown_below gg L8.out HX.out
            have K := Lib.hid (K.out.below b12 GR.out)
            have O := Lib.hid (own_touch O.out (Touch.of_grown gg) (fun s hs zs hz => by
              obtain rfl := List.mem_singleton.1 hs
              exact Blk.ne N.out hz (by decide) rfl))
            have N := Lib.hid (Blk.row N.out #[.int .i64 X.kind, .int .i64 X.fr, .int .i64 X.dst, .int .i64 X.boot, .int .i64 X.view, .int .i64 X.last, .int .i64 X.mem, .int .i64 X.pos, .slice A11 X.es.length c11, .int .i64 X.com, .int .i64 X.num, .int .i64 X.clk, .bool X.yes])
            have BT := Lib.hid (BT.out.trans (b12.mono HW.out))
            refine Hb.next b12 (Nat.le_refl _) ?_
            clear b12 gg
            refine Hb.take (v := .int .i64 E) 10 6 rfl ?_ (fun _ _ => rfl)
            refine Hb.done ?_
            go_wp2_with fail
            go_meet
            case rel => exact ⟨_, A11, c11, rfl, rfl, N, Lib.hid (Rd.of_own O.out), K, BT⟩
        · skip
          refine Hb.pick 8 (some 5) rfl ?_
          refine wpList_runTo' rfl (.pointer (some ⟨x0.heap.size, 0, none⟩)) (x0.alloc (.cells #[.int .i64 0, .int .i64 0, .int .i64 0, .int .i64 0, .int .i64 0, .int .i64 0, .int .i64 0, .int .i64 0, .slice none 0 0, .int .i64 0, .int .i64 0, .int .i64 0, .bool false] 30)) (by go_simp) ?_
          have b13 : Below x0.heap.size x0 (x0.alloc (.cells #[.int .i64 0, .int .i64 0, .int .i64 0, .int .i64 0, .int .i64 0, .int .i64 0, .int .i64 0, .int .i64 0, .slice none 0 0, .int .i64 0, .int .i64 0, .int .i64 0, .bool false] 30)) := (Below.refl _ _).alloc (Nat.le_refl _) _
          have L8 := Lib.hid HX.out
          have hx13 := HX.out
          have K := Lib.hid (K.out.past b13)
          have HX := Lib.hid (Nat.le_trans hx13 b13.size)
          have BT := Lib.hid (BT.out.trans (b13.mono (Nat.le_trans HW.out hx13)))
          refine Hb.next (b13.mono hx13) (Nat.le_refl _) ?_ (by simp only [Act.put, List.setIfInBounds_toArray, List.set_cons_succ, List.set_cons_zero]; rfl)
          have N := Lib.hid (show Blk (x0.alloc (.cells #[.int .i64 0, .int .i64 0, .int .i64 0, .int .i64 0, .int .i64 0, .int .i64 0, .int .i64 0, .int .i64 0, .slice none 0 0, .int .i64 0, .int .i64 0, .int .i64 0, .bool false] 30)) x0.heap.size 30 (mcs zeroM none 0) from Blk.new x0 #[.int .i64 0, .int .i64 0, .int .i64 0, .int .i64 0, .int .i64 0, .int .i64 0, .int .i64 0, .int .i64 0, .slice none 0 0, .int .i64 0, .int .i64 0, .int .i64 0, .bool false] 30)
          clear b13
          generalize x0.alloc (.cells #[.int .i64 0, .int .i64 0, .int .i64 0, .int .i64 0, .int .i64 0, .int .i64 0, .int .i64 0, .int .i64 0, .slice none 0 0, .int .i64 0, .int .i64 0, .int .i64 0, .bool false] 30) = y13 at *
          refine Hb.call (f := 9) (args := #[.int .i64 ((i : Int) + 1)]) 1 25 rfl ?_ (run_callf Tryd.func9 (by kernel_rfl) (by kernel_rfl) (by simp only [List.map_toArray, List.map_cons, List.map_nil]; rfl))
          refine (gNew_yes y13 _ HID.out).mono ?_
          rintro e y14 ⟨rfl, g14, b14⟩
          have HG := Lib.hid HX.out
          have hx14 := HX.out
          have K := Lib.hid (K.out.past b14)
          have N := Lib.hid (N.out.past b14)
          have HX := Lib.hid (Nat.le_trans hx14 b14.size)
          have BT := Lib.hid (BT.out.trans (b14.mono (Nat.le_trans HW.out hx14)))
          refine Hb.back (b14.mono hx14) (Nat.le_refl _) ?_
          have G := Lib.hid g14
          clear g14 b14
          refine Hb.call (f := 12) (args := #[mv m A c]) 3 27 rfl ?_ (run_callf Tryd.func12 (by kernel_rfl) (by kernel_rfl) (by simp only [List.map_toArray, List.map_cons, List.map_nil]; rfl))
          refine (rBytes_c y14 m A c ((HR.out.past BT.out).tight)).mono ?_
          rintro e y15 ⟨A15, c15, rfl, o15, b15⟩
          have hx15 := HX.out
          have K := Lib.hid (K.out.past b15)
          have G := Lib.hid (G.out.past b15)
          have N := Lib.hid (N.out.past b15)
          have HX := Lib.hid (Nat.le_trans hx15 b15.size)
          have BT := Lib.hid (BT.out.trans (b15.mono (Nat.le_trans HW.out hx15)))
          refine Hb.back (b15.mono hx15) (Nat.le_refl _) ?_
          have R := Lib.hid (Rd.of_own o15)
          clear o15 b15
          refine Hb.call (f := 11) (args := #[.pointer (some ⟨y13.heap.size, 0, none⟩), .slice A15 (PMsg.enc m).length c15]) 4 28 rfl ?_ (run_callf Tryd.func11 (by kernel_rfl) (by kernel_rfl) (by simp only [List.map_toArray, List.map_cons, List.map_nil]; rfl))
          have e1 := hear_c y15 _ ((i : Int) + 1) PGram.zeroL A15 c15 _ _ G.out R.out.tight HEB.out (HT.out.past BT.out) (by have := HEL.out; omega)
          rw [HSD.out] at e1
          unfold HearPost at e1
          rw [HXE.out.1, HXE.out.2] at e1
          refine e1.mono ?_
          clear e1
          rintro e y16 ⟨A16, c16, rfl, o16, g16, t16⟩
          have b16 : Below x0.heap.size y15 y16 := t16.below (fun q hq => by obtain rfl := List.mem_singleton.1 hq; exact HG.out) HX.out
          have hx16 := HX.out
          have O := Lib.hid (own_base o16 (show x0.heap.size ≤ y15.heap.size from HX.out))
          have K := Lib.hid (K.out.below b16 GR.out)
          have N := Lib.hid (Blk.touch N.out t16 (by simpa using Blk.ne N.out G.out.1 (by decide)))
          have HX := Lib.hid (Nat.le_trans hx16 t16.size)
          have BT := Lib.hid (BT.out.trans (b16.mono HW.out))
          refine Hb.back b16 (Nat.le_refl _) ?_
          clear o16 g16 t16 b16 G R HG
          refine Hb.take (v := .tuple #[mv X A16 c16, .int .i64 E]) 5 23 rfl ?_ (fun _ _ => rfl)
          refine Hb.take (v := mv X A16 c16) 6 29 rfl ?_ (fun w' hw' => by go_simp)
          refine Hb.take (v := .int .i64 E) 7 30 rfl ?_ (fun w' hw' => by go_simp)
          refine Hb.only 9 none rfl ?_
          refine wpList_store_row rfl 30 (.tmp 5) (.tmp 29) rfl (x0.heap.size) _ rfl rfl _ _ N.out (by kernel_rfl) (by rfl) (by kernel_rfl) ?_
          have gg := grown_row y16 (x0.heap.size) #[.int .i64 X.kind, .int .i64 X.fr, .int .i64 X.dst, .int .i64 X.boot, .int .i64 X.view, .int .i64 X.last, .int .i64 X.mem, .int .i64 X.pos, .slice A16 X.es.length c16, .int .i64 X.com, .int .i64 X.num, .int .i64 X.clk, .bool X.yes]
          have hx17 := HX.out
          have b17 : Below x0.heap.size y16 _ := grown_below gg L8.out HX.out
          have K := Lib.hid (K.out.below b17 GR.out)
          have O := Lib.hid (own_touch O.out (Touch.of_grown gg) (fun s hs zs hz => by
            obtain rfl := List.mem_singleton.1 hs
            exact Blk.ne N.out hz (by decide) rfl))
          have N := Lib.hid (Blk.row N.out #[.int .i64 X.kind, .int .i64 X.fr, .int .i64 X.dst, .int .i64 X.boot, .int .i64 X.view, .int .i64 X.last, .int .i64 X.mem, .int .i64 X.pos, .slice A16 X.es.length c16, .int .i64 X.com, .int .i64 X.num, .int .i64 X.clk, .bool X.yes])
          have BT := Lib.hid (BT.out.trans (b17.mono HW.out))
          refine Hb.next b17 (Nat.le_refl _) ?_
          clear b17 gg
          refine Hb.take (v := .int .i64 E) 10 6 rfl ?_ (fun _ _ => rfl)
          refine Hb.done ?_
          go_wp2_with fail
          go_meet
          case rel => exact ⟨_, A16, c16, rfl, rfl, N, Lib.hid (Rd.of_own O.out), K, BT⟩
      case rest =>
        obtain ⟨gx, A5, c5, rfl, rfl, KX, RX, K2, BT2⟩ := hcut
        clear K BT
        have k2 := K2.out.cell (i := 2) rfl
        by_cases hme : m.dst = (i : Int) + 1
        · have hw := (hear_new ((i : Int) + 1) HM.out).1 hme
          obtain rfl : m = X := hw.2.symm.trans HXE.out.1
          obtain rfl : 0 = E := hw.1.symm.trans HXE.out.2
          have t2 : (m.dst == (i : Int) + 1) = true := by simp [hme]
          clear hw hme HXE
          go_wp2_with (first | ((with_reducible show wpList _ _ _ ((⟨some 42, Op.load _ _, _, _, _, _⟩ : Oper) :: _) _ _); go_must (refine wpList_unguard rfl ?_; refine wpList_load_row rfl 30 (.tmp 5) rfl gx rfl 30 #[.int .i64 m.kind, .int .i64 m.fr, .int .i64 m.dst, .int .i64 m.boot, .int .i64 m.view, .int .i64 m.last, .int .i64 m.mem, .int .i64 m.pos, .slice A5 m.es.length c5, .int .i64 m.com, .int .i64 m.num, .int .i64 m.clk, .bool m.yes] (0, 0) _ KX.out Tryd.underlying30 rfl (by kernel_rfl) ?_)) | ((with_reducible show wpList _ _ _ ((⟨some 43, Op.load _ _, _, _, _, _⟩ : Oper) :: _) _ _); go_must (refine wpList_unguard rfl ?_; refine wpList_load_row rfl 30 (.tmp 1) rfl gm rfl 30 #[.int .i64 m.kind, .int .i64 m.fr, .int .i64 m.dst, .int .i64 m.boot, .int .i64 m.view, .int .i64 m.last, .int .i64 m.mem, .int .i64 m.pos, .slice A m.es.length c, .int .i64 m.com, .int .i64 m.num, .int .i64 m.clk, .bool m.yes] (0, 0) _ K2.out Tryd.underlying30 rfl (by kernel_rfl) ?_)))
          refine (show Calls _ _ #[.agg #[.int .i64 m.kind, .int .i64 m.fr, .int .i64 m.dst, .int .i64 m.boot, .int .i64 m.view, .int .i64 m.last, .int .i64 m.mem, .int .i64 m.pos, .slice A5 m.es.length c5, .int .i64 m.com, .int .i64 m.num, .int .i64 m.clk, .bool m.yes], .agg #[.int .i64 m.kind, .int .i64 m.fr, .int .i64 m.dst, .int .i64 m.boot, .int .i64 m.view, .int .i64 m.last, .int .i64 m.mem, .int .i64 m.pos, .slice A m.es.length c, .int .i64 m.com, .int .i64 m.num, .int .i64 m.clk, .bool m.yes]] wc _ from rEqM_c wc m m A5 A c5 c RX.out ((HR.out.past BT2.out).tight)).mono ?_
          rw [PMsg.eqM_refl]
          rintro x w5 ⟨rfl, b5⟩
          have BT5 := Lib.hid (BT2.out.trans (b5.mono BT2.out.size))
          have K5 := Lib.hid (K2.out.past b5)
          clear b5 k2 K2 BT2 KX RX
          go_wp2_with fail
          go_roundg (7 - (i + 1))
          case measure => omega
          case rel => exact ⟨i + 1, rfl, by omega, by go_num, BT5, K5⟩
        · have hw := (hear_new ((i : Int) + 1) HM.out).2 hme
          obtain rfl : 1 = E := hw.symm.trans HXE.out.2
          have t2 : (m.dst == (i : Int) + 1) = false := by simp [hme]
          clear hw hme HXE
          go_wp2_with fail
          go_roundg (7 - (i + 1))
          case measure => omega
          case rel => exact ⟨i + 1, rfl, by omega, by go_num, BT2, K2⟩
    · have hj : ¬ ((i : Int) + 1 ≤ 7) := by omega
      go_wp2_with fail
      go_ret
      exact ⟨rfl, BT.out⟩
end Go.Proofs.YtfijjdahoimoeaaDoor

