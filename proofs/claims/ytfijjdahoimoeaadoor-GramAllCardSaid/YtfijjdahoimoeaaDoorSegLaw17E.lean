/- The walk of GramAll. -/
import Derived.Test.YtfijjdahoimoeaaDoorSeg13
import Derived.Test.YtfijjdahoimoeaaDoorSeg15
import Derived.Test.YtfijjdahoimoeaaDoorSeg14
import Derived.BigQuiet
import Derived.BigRegion
import Derived.Deep.QuietTactic
import Derived.WalkSmall
import Derived.Deep.CutRange
import Derived.Deep.CutBlock
import Derived.Deep.LoopGhost
namespace Go.Proofs.YtfijjdahoimoeaaDoor
open Go.RowKit

set_option maxHeartbeats 32000000 in
set_option maxRecDepth 100000 in
theorem GramAll_w (w : World) (ht : Tab w) (me : Int) (A : Option Addr) (n c : Nat) (z : List Value) (h0 : Rd w w.heap.size A c 18 n z) (hz : AllG w z) (ppm : Int) :
    Calls Tryd.prog 3 #[.int .i64 me, .slice A n c, .int .i64 ppm] w fun e w' => e = .returned (.bool true) ∧ Below w.heap.size w w' := by
  have HT := Lib.hid ht
  have HR := Lib.hid h0
  have HZ := Lib.hid hz
  clear ht h0 hz
  go_enter Tryd.func3, Tryd.ntmps3
  go_wp2_with fail
  refine (begunG_c w HT.out).mono ?_
  rintro x w1 ⟨rfl, b1⟩
  cases hme : PGram.isId me
  · have HME := Lib.hid hme
    rcases (by
      have := PGram.isId_no hme
      omega : me < 1 ∨ ¬ me < 1 ∧ 7 < me) with j1 | ⟨j1, j2⟩
    · go_wp2_with fail
      refine (gNew_no w1 me HME.out).mono ?_
      rintro x w2 ⟨rfl, rfl⟩
      go_wp2_with fail
      go_ret
      exact ⟨rfl, b1⟩
    · go_wp2_with fail
      refine (gNew_no w1 me HME.out).mono ?_
      rintro x w2 ⟨rfl, rfl⟩
      go_wp2_with fail
      go_ret
      exact ⟨rfl, b1⟩
  obtain ⟨j1, j2⟩ : ¬ me < 1 ∧ ¬ 7 < me := by have := of_decide_eq_true hme; omega
  go_wp2_with fail
  refine (gNew_gs b1 me hme).mono ?_
  rintro x w2 ⟨rfl, g2', -⟩
  have AS3 := Lib.hid (show As w ((((w2.alloc (.cells #[.int .i64 0, .int .i64 0, .int .i64 0, .int .i64 0, .int .i64 0, .int .i64 0, .int .i64 0, .int .i64 0] 26)).alloc (.cells #[.int .i64 0, .int .i64 0, .int .i64 0, .int .i64 0, .int .i64 0, .int .i64 0, .int .i64 0, .int .i64 0] 26)).alloc (.cells #[.int .i64 0, .int .i64 0, .int .i64 0, .int .i64 0, .int .i64 0, .int .i64 0, .int .i64 0, .int .i64 0] 26)).alloc (.cells #[.bool false, .bool false, .bool false, .bool false, .bool false, .bool false, .bool false, .bool false] 27)) w1.heap.size w2.heap.size (w2.heap.size + 1) (w2.heap.size + 1 + 1) (w2.heap.size + 1 + 1 + 1) me PGram.zeroL PGram.zeroL from by
    have b3 := (((Below.refl w2.heap.size w2).alloc (Nat.le_refl _) (.cells #[.int .i64 0, .int .i64 0, .int .i64 0, .int .i64 0, .int .i64 0, .int .i64 0, .int .i64 0, .int .i64 0] 26)).alloc (by simp) (.cells #[.int .i64 0, .int .i64 0, .int .i64 0, .int .i64 0, .int .i64 0, .int .i64 0, .int .i64 0, .int .i64 0] 26)).alloc (by simp; omega) (.cells #[.int .i64 0, .int .i64 0, .int .i64 0, .int .i64 0, .int .i64 0, .int .i64 0, .int .i64 0, .int .i64 0] 26)
    have b4 := b3.alloc b3.size (.cells #[.bool false, .bool false, .bool false, .bool false, .bool false, .bool false, .bool false, .bool false] 27)
    have hs := g2'.bel.size
    have B1 := (Blk.new w2 #[.int .i64 0, .int .i64 0, .int .i64 0, .int .i64 0, .int .i64 0, .int .i64 0, .int .i64 0, .int .i64 0] 26)
    have B2 := (Blk.new (w2.alloc (.cells #[.int .i64 0, .int .i64 0, .int .i64 0, .int .i64 0, .int .i64 0, .int .i64 0, .int .i64 0, .int .i64 0] 26)) #[.int .i64 0, .int .i64 0, .int .i64 0, .int .i64 0, .int .i64 0, .int .i64 0, .int .i64 0, .int .i64 0] 26)
    have B3 := (Blk.new ((w2.alloc (.cells #[.int .i64 0, .int .i64 0, .int .i64 0, .int .i64 0, .int .i64 0, .int .i64 0, .int .i64 0, .int .i64 0] 26)).alloc (.cells #[.int .i64 0, .int .i64 0, .int .i64 0, .int .i64 0, .int .i64 0, .int .i64 0, .int .i64 0, .int .i64 0] 26)) #[.int .i64 0, .int .i64 0, .int .i64 0, .int .i64 0, .int .i64 0, .int .i64 0, .int .i64 0, .int .i64 0] 26)
    have B4 := (Blk.new (((w2.alloc (.cells #[.int .i64 0, .int .i64 0, .int .i64 0, .int .i64 0, .int .i64 0, .int .i64 0, .int .i64 0, .int .i64 0] 26)).alloc (.cells #[.int .i64 0, .int .i64 0, .int .i64 0, .int .i64 0, .int .i64 0, .int .i64 0, .int .i64 0, .int .i64 0] 26)).alloc (.cells #[.int .i64 0, .int .i64 0, .int .i64 0, .int .i64 0, .int .i64 0, .int .i64 0, .int .i64 0, .int .i64 0] 26)) #[.bool false, .bool false, .bool false, .bool false, .bool false, .bool false, .bool false, .bool false] 27)
    have e1 : (w2.alloc (.cells #[.int .i64 0, .int .i64 0, .int .i64 0, .int .i64 0, .int .i64 0, .int .i64 0, .int .i64 0, .int .i64 0] 26)).heap.size = w2.heap.size + 1 := by simp
    have e2 : ((w2.alloc (.cells #[.int .i64 0, .int .i64 0, .int .i64 0, .int .i64 0, .int .i64 0, .int .i64 0, .int .i64 0, .int .i64 0] 26)).alloc (.cells #[.int .i64 0, .int .i64 0, .int .i64 0, .int .i64 0, .int .i64 0, .int .i64 0, .int .i64 0, .int .i64 0] 26)).heap.size = w2.heap.size + 1 + 1 := by simp
    have e3 : (((w2.alloc (.cells #[.int .i64 0, .int .i64 0, .int .i64 0, .int .i64 0, .int .i64 0, .int .i64 0, .int .i64 0, .int .i64 0] 26)).alloc (.cells #[.int .i64 0, .int .i64 0, .int .i64 0, .int .i64 0, .int .i64 0, .int .i64 0, .int .i64 0, .int .i64 0] 26)).alloc (.cells #[.int .i64 0, .int .i64 0, .int .i64 0, .int .i64 0, .int .i64 0, .int .i64 0, .int .i64 0, .int .i64 0] 26)).heap.size = w2.heap.size + 1 + 1 + 1 := by simp
    rw [e1] at B2
    rw [e2] at B3
    rw [e3] at B4
    exact ⟨g2'.past b4, ((B1.alloc _).alloc _).alloc _, (B2.alloc _).alloc _, B3.alloc _, B4, hs, by omega, by omega, by omega, by omega, by omega, by omega, rfl⟩)
  clear g2' b1 hme
  go_wp2_with fail
  generalize (((w2.alloc (.cells #[.int .i64 0, .int .i64 0, .int .i64 0, .int .i64 0, .int .i64 0, .int .i64 0, .int .i64 0, .int .i64 0] 26)).alloc (.cells #[.int .i64 0, .int .i64 0, .int .i64 0, .int .i64 0, .int .i64 0, .int .i64 0, .int .i64 0, .int .i64 0] 26)).alloc (.cells #[.int .i64 0, .int .i64 0, .int .i64 0, .int .i64 0, .int .i64 0, .int .i64 0, .int .i64 0, .int .i64 0] 26)).alloc (.cells #[.bool false, .bool false, .bool false, .bool false, .bool false, .bool false, .bool false, .bool false] 27) = w3 at *
  generalize w1.heap.size = g at *
  generalize w2.heap.size + 1 + 1 + 1 = gs at *
  generalize w2.heap.size + 1 + 1 = ga at *
  generalize w2.heap.size + 1 = gn at *
  generalize w2.heap.size = gb at *
  go_loopg [13] n (fun k s13 wr => ∃ (i : Nat) (L : List Oth), k = n - i ∧ i ≤ n ∧ i ≤ 50 ∧ s13 = .int .i64 i ∧ Hid (As w wr g gb gn ga gs me L L))
  case atStart => exact ⟨0, PGram.zeroL, by omega, by omega, by omega, rfl, AS3⟩
  case round =>
    clear AS3
    obtain ⟨i, L, rfl, hin, hi50, rfl, AS⟩ := hrel
    by_cases h1 : i < n
    · by_cases h2 : i < 50
      · obtain ⟨bo, oo, kd, id, m, MA, mc, BA, bn, bc, bl, num, clk, rfl, hrg, hrm, hok, hrb, hbb⟩ := HR.out.gop HZ.out AS.out.gm.bel h1
        have HRG := Lib.hid hrg
        have b0 := (Below.refl wr.heap.size wr).alloc (Nat.le_refl _) (.cells #[.int .i64 0, .int .i64 0, .int .i64 0, .int .i64 0, .int .i64 0, .int .i64 0, .int .i64 0, .int .i64 0, .int .i64 0, .int .i64 0, .slice none 0 0, .int .i64 0, .int .i64 0, .int .i64 0, .bool false, .slice none 0 0, .int .i64 0, .int .i64 0] 33)
        have K0 := Blk.new wr #[.int .i64 0, .int .i64 0, .int .i64 0, .int .i64 0, .int .i64 0, .int .i64 0, .int .i64 0, .int .i64 0, .int .i64 0, .int .i64 0, .slice none 0 0, .int .i64 0, .int .i64 0, .int .i64 0, .bool false, .slice none 0 0, .int .i64 0, .int .i64 0] 33
        have b4 := b0.trans (grown_below (grown_row (wr.alloc (.cells #[.int .i64 0, .int .i64 0, .int .i64 0, .int .i64 0, .int .i64 0, .int .i64 0, .int .i64 0, .int .i64 0, .int .i64 0, .int .i64 0, .slice none 0 0, .int .i64 0, .int .i64 0, .int .i64 0, .bool false, .slice none 0 0, .int .i64 0, .int .i64 0] 33)) wr.heap.size #[.int .i64 kd, .int .i64 id, .int .i64 m.kind, .int .i64 m.fr, .int .i64 m.dst, .int .i64 m.boot, .int .i64 m.view, .int .i64 m.last, .int .i64 m.mem, .int .i64 m.pos, .slice MA m.es.length mc, .int .i64 m.com, .int .i64 m.num, .int .i64 m.clk, .bool m.yes, .slice BA bn bc, .int .i64 num, .int .i64 clk]) (Nat.le_refl _) b0.size)
        have HRM := Lib.hid (hrm.past b4)
        have HRB := Lib.hid (hrb.past b4)
        have HOK := Lib.hid hok.ents
        have HBB := Lib.hid hbb
        have KZ := Lib.hid K0
        have KO4 := Lib.hid (show Blk ((wr.alloc (.cells #[.int .i64 0, .int .i64 0, .int .i64 0, .int .i64 0, .int .i64 0, .int .i64 0, .int .i64 0, .int .i64 0, .int .i64 0, .int .i64 0, .slice none 0 0, .int .i64 0, .int .i64 0, .int .i64 0, .bool false, .slice none 0 0, .int .i64 0, .int .i64 0] 33)).setRow wr.heap.size #[.int .i64 kd, .int .i64 id, .int .i64 m.kind, .int .i64 m.fr, .int .i64 m.dst, .int .i64 m.boot, .int .i64 m.view, .int .i64 m.last, .int .i64 m.mem, .int .i64 m.pos, .slice MA m.es.length mc, .int .i64 m.com, .int .i64 m.num, .int .i64 m.clk, .bool m.yes, .slice BA bn bc, .int .i64 num, .int .i64 clk]) wr.heap.size 33 (gopc kd id m MA mc BA bn bc num clk) from K0.row #[.int .i64 kd, .int .i64 id, .int .i64 m.kind, .int .i64 m.fr, .int .i64 m.dst, .int .i64 m.boot, .int .i64 m.view, .int .i64 m.last, .int .i64 m.mem, .int .i64 m.pos, .slice MA m.es.length mc, .int .i64 m.com, .int .i64 m.num, .int .i64 m.clk, .bool m.yes, .slice BA bn bc, .int .i64 num, .int .i64 clk])
        have AS4 := Lib.hid (AS.out.past b4)
        clear b0 K0 b4
        have t1 : (i : Int) < 50 := by omega
        clear hrg hrm hok hrb hbb AS
        go_wp2_with (first | ((with_reducible show wpList _ _ _ ((⟨none, Op.store 33 (.tmp 14) _, _, _, _, _⟩ : Oper) :: _) _ _); go_must (refine wpList_store_row rfl 33 (.tmp 14) (.tmp 55) rfl wr.heap.size _ rfl rfl _ _ KZ.out (by kernel_rfl) (by rfl) (by kernel_rfl) ?_)) | ((with_reducible show wpList _ _ _ ((⟨some 55, Op.load _ _, _, _, _, _⟩ : Oper) :: _) _ _); go_must (refine wpList_load_mid rfl 33 (.tmp 54) rfl bo (oo + i * 18) rfl ([.int .i64 kd, .int .i64 id, .int .i64 m.kind, .int .i64 m.fr, .int .i64 m.dst, .int .i64 m.boot, .int .i64 m.view, .int .i64 m.last, .int .i64 m.mem, .int .i64 m.pos, .slice MA m.es.length mc, .int .i64 m.com, .int .i64 m.num, .int .i64 m.clk, .bool m.yes, .slice BA bn bc, .int .i64 num, .int .i64 clk]) _ HRG.out Tryd.underlying33 rfl (by kernel_rfl) ?_)) | ((with_reducible show wpList _ _ _ ((⟨some 57, Op.load _ _, _, _, _, _⟩ : Oper) :: _) _ _); go_must (refine wpList_load_mid rfl 30 (.tmp 56) rfl wr.heap.size (2) rfl ([.int .i64 m.kind, .int .i64 m.fr, .int .i64 m.dst, .int .i64 m.boot, .int .i64 m.view, .int .i64 m.last, .int .i64 m.mem, .int .i64 m.pos, .slice MA m.es.length mc, .int .i64 m.com, .int .i64 m.num, .int .i64 m.clk, .bool m.yes]) _ (gopc_msg KO4.out) Tryd.underlying30 rfl (by kernel_rfl) ?_)))
        clear KZ
        generalize (wr.alloc (.cells #[.int .i64 0, .int .i64 0, .int .i64 0, .int .i64 0, .int .i64 0, .int .i64 0, .int .i64 0, .int .i64 0, .int .i64 0, .int .i64 0, .slice none 0 0, .int .i64 0, .int .i64 0, .int .i64 0, .bool false, .slice none 0 0, .int .i64 0, .int .i64 0] 33)).setRow wr.heap.size #[.int .i64 kd, .int .i64 id, .int .i64 m.kind, .int .i64 m.fr, .int .i64 m.dst, .int .i64 m.boot, .int .i64 m.view, .int .i64 m.last, .int .i64 m.mem, .int .i64 m.pos, .slice MA m.es.length mc, .int .i64 m.com, .int .i64 m.num, .int .i64 m.clk, .bool m.yes, .slice BA bn bc, .int .i64 num, .int .i64 clk] = w4 at *
        generalize wr.heap.size = gO at *
        refine (show Calls _ _ #[.agg (mcs m MA mc).toArray] w4 _ from lCutM2 w4 m MA mc (HRM.out.tight) HOK.out).mono ?_
        rintro x w5 ⟨A5, c5, m2, rfl, o5, b5⟩
        have b6 := (Below.refl w5.heap.size w5).alloc (Nat.le_refl _) (.cells #[.int .i64 m2.kind, .int .i64 m2.fr, .int .i64 m2.dst, .int .i64 m2.boot, .int .i64 m2.view, .int .i64 m2.last, .int .i64 m2.mem, .int .i64 m2.pos, .slice A5 m2.es.length c5, .int .i64 m2.com, .int .i64 m2.num, .int .i64 m2.clk, .bool m2.yes] 30)
        have AS6 := Lib.hid ((AS4.out.past b5).past b6)
        have KO6 := Lib.hid ((KO4.out.past b5).past b6)
        have OW6 := Lib.hid (own_touch (own_base o5 (show w.heap.size ≤ w4.heap.size from AS4.out.gm.bel.size)) (S := []) (Touch.of_below b6) (by simp))
        have RB6 := Lib.hid (((HRB.out.past b5).past b6).tight)
        have KM6 := Lib.hid (show Blk (w5.alloc (.cells #[.int .i64 m2.kind, .int .i64 m2.fr, .int .i64 m2.dst, .int .i64 m2.boot, .int .i64 m2.view, .int .i64 m2.last, .int .i64 m2.mem, .int .i64 m2.pos, .slice A5 m2.es.length c5, .int .i64 m2.com, .int .i64 m2.num, .int .i64 m2.clk, .bool m2.yes] 30)) w5.heap.size 30 (mcs m2 A5 c5) from Blk.new w5 #[.int .i64 m2.kind, .int .i64 m2.fr, .int .i64 m2.dst, .int .i64 m2.boot, .int .i64 m2.view, .int .i64 m2.last, .int .i64 m2.mem, .int .i64 m2.pos, .slice A5 m2.es.length c5, .int .i64 m2.com, .int .i64 m2.num, .int .i64 m2.clk, .bool m2.yes] 30)
        clear o5 b5 b6 AS4 KO4 HRM HRB HRG HOK
        have ko := (KO6.out).cell (i := 0) rfl
        go_upto_block 2 with fail
        generalize w5.alloc (.cells #[.int .i64 m2.kind, .int .i64 m2.fr, .int .i64 m2.dst, .int .i64 m2.boot, .int .i64 m2.view, .int .i64 m2.last, .int .i64 m2.mem, .int .i64 m2.pos, .slice A5 m2.es.length c5, .int .i64 m2.com, .int .i64 m2.num, .int .i64 m2.clk, .bool m2.yes] 30) = w6 at *
        generalize w5.heap.size = gM at *
        go_cut [15, 16, 17, 18, 19, 20, 21, 22, 23, 24, 25] from 61 to 224 (fun s15 s16 s17 s18 s19 s20 s21 s22 s23 s24 s25 wx => ∃ (L' T : List Oth), Hid (As w wx g gb gn ga gs me L' T) ∧ Hid (Blk wx gO 33 (gopc kd id m MA mc BA bn bc num clk)) ∧ (kd = 1 ∨ T = L'))
        case first =>
          by_cases k0 : kd = 0
          · subst k0
            go_wp2_with ((with_reducible show wpList _ _ _ ((⟨some 126, Op.load _ _, _, _, _, _⟩ : Oper) :: _) _ _); go_must (refine wpList_load_row rfl 30 (.tmp 15) rfl gM rfl 30 #[.int .i64 m2.kind, .int .i64 m2.fr, .int .i64 m2.dst, .int .i64 m2.boot, .int .i64 m2.view, .int .i64 m2.last, .int .i64 m2.mem, .int .i64 m2.pos, .slice A5 m2.es.length c5, .int .i64 m2.com, .int .i64 m2.num, .int .i64 m2.clk, .bool m2.yes] (0, 0) _ KM6.out Tryd.underlying30 rfl (by kernel_rfl) ?_))
            refine (show Calls _ _ #[.agg #[.int .i64 m2.kind, .int .i64 m2.fr, .int .i64 m2.dst, .int .i64 m2.boot, .int .i64 m2.view, .int .i64 m2.last, .int .i64 m2.mem, .int .i64 m2.pos, .slice A5 m2.es.length c5, .int .i64 m2.com, .int .i64 m2.num, .int .i64 m2.clk, .bool m2.yes]] w6 _ from rBytes_c w6 m2 A5 c5 (Rd.of_own OW6.out)).mono ?_
            have HSD0 := Lib.hid (dec_said m2)
            have HEL := Lib.hid (PMsg.enc_len m2)
            have HEB := Lib.hid (PMsg.enc_byte m2)
            generalize PMsg.enc m2 = EN at *
            rintro x w7 ⟨A7, c7, rfl, o7, b7⟩
            have AS7 := Lib.hid (AS6.out.past b7)
            have KO7 := Lib.hid (KO6.out.past b7)
            have KM7 := Lib.hid (KM6.out.past b7)
            have OW7 := Lib.hid (own_touch OW6.out (S := []) (Touch.of_below b7) (by simp))
            have R7 := Lib.hid (Rd.of_own o7)
            clear o7 b7 AS6 KO6 KM6 OW6 RB6 ko
            go_wp2_with fail
            cases hy : PMsg.may m2
            · have HSD := Lib.hid (HSD0.out.trans (show said m2 = none from if_neg (by rw [hy]; decide)))
              have HE := Lib.hid (show PGram.herr me L none = 1 from rfl)
              have HY := Lib.hid hy
              clear hy HSD0
              as_aux_lemma =>
                refine (hear_no AS7.out.gm.gm R7.out HEB.out (AS7.out.gm.tab HT.out) (by have := HEL.out; omega) HSD.out HE.out (by decide)).mono ?_
                rintro x w8 ⟨A8, c8, rfl, g8, t8⟩
                have b9 := (Below.refl w8.heap.size w8).alloc (Nat.le_refl _) (.cells #[.int .i64 0, .int .i64 0, .int .i64 0, .int .i64 0, .int .i64 0, .int .i64 0, .int .i64 0, .int .i64 0, .slice A8 0 c8, .int .i64 0, .int .i64 0, .int .i64 0, .bool false] 30)
                have AS9 := Lib.hid ((AS7.out.hear g8 t8 rfl rfl rfl).past b9)
                have KO9 := Lib.hid (Blk.past (AS7.out.gm.blk KO7.out (by decide) t8) b9)
                have KM9 := Lib.hid (Blk.past (AS7.out.gm.blk KM7.out (by decide) t8) b9)
                have OW9 := Lib.hid (own_touch (AS7.out.gm.row OW7.out (by decide) t8) (S := []) (Touch.of_below b9) (by simp))
                have X9 := Lib.hid (show Blk (w8.alloc (.cells #[.int .i64 0, .int .i64 0, .int .i64 0, .int .i64 0, .int .i64 0, .int .i64 0, .int .i64 0, .int .i64 0, .slice A8 0 c8, .int .i64 0, .int .i64 0, .int .i64 0, .bool false] 30)) w8.heap.size 30 (mcs zeroM A8 c8) from Blk.new w8 #[.int .i64 0, .int .i64 0, .int .i64 0, .int .i64 0, .int .i64 0, .int .i64 0, .int .i64 0, .int .i64 0, .slice A8 0 c8, .int .i64 0, .int .i64 0, .int .i64 0, .bool false] 30)
                clear g8 t8 b9 AS7 KO7 KM7 OW7 R7
                go_wp2_with ((with_reducible show wpList _ _ _ ((⟨some 131, Op.load _ _, _, _, _, _⟩ : Oper) :: _) _ _); go_must (refine wpList_load_row rfl 30 (.tmp 15) rfl gM rfl 30 #[.int .i64 m2.kind, .int .i64 m2.fr, .int .i64 m2.dst, .int .i64 m2.boot, .int .i64 m2.view, .int .i64 m2.last, .int .i64 m2.mem, .int .i64 m2.pos, .slice A5 m2.es.length c5, .int .i64 m2.com, .int .i64 m2.num, .int .i64 m2.clk, .bool m2.yes] (0, 0) _ KM9.out Tryd.underlying30 rfl (by kernel_rfl) ?_))
                generalize w8.alloc (.cells #[.int .i64 0, .int .i64 0, .int .i64 0, .int .i64 0, .int .i64 0, .int .i64 0, .int .i64 0, .int .i64 0, .slice A8 0 c8, .int .i64 0, .int .i64 0, .int .i64 0, .bool false] 30) = w9 at *
                generalize w8.heap.size = gX at *
                refine (show Calls _ _ #[.agg #[.int .i64 m2.kind, .int .i64 m2.fr, .int .i64 m2.dst, .int .i64 m2.boot, .int .i64 m2.view, .int .i64 m2.last, .int .i64 m2.mem, .int .i64 m2.pos, .slice A5 m2.es.length c5, .int .i64 m2.com, .int .i64 m2.num, .int .i64 m2.clk, .bool m2.yes]] w9 _ from rMayM_c w9 m2 A5 c5 (Rd.of_own OW9.out)).mono ?_
                rw [HY.out]
                rintro x w10 ⟨rfl, b10⟩
                have AS10 := Lib.hid (AS9.out.past b10)
                have KO10 := Lib.hid (KO9.out.past b10)
                have KM10 := Lib.hid (KM9.out.past b10)
                have X10 := Lib.hid (X9.out.past b10)
                clear b10 AS9 KO9 KM9 X9 OW9
                have x0 : w10.cell? ⟨gX, 0, none⟩ = some (.int .i64 0) := X10.out.cell (i := 0) rfl
                go_wp2_with fail
                go_meet
                case rel => exact ⟨L, L, AS10, KO10, Or.inr rfl⟩
            have HSD := Lib.hid (HSD0.out.trans (show said m2 = some m2 from if_pos hy))
            have HY := Lib.hid hy
            have hm := (PMsg.may_iff m2).1 hy
            clear hy HSD0
            by_cases hme : m2.dst = me
            · obtain ⟨k, hk, hfr⟩ : ∃ k : Nat, k < 7 ∧ m2.fr = (k : Int) + 1 := ⟨(m2.fr - 1).toNat, by have := hm.2.1; omega, by have := hm.2.1; omega⟩
              have i0 : 0 ≤ m2.fr := by omega
              have i8 : m2.fr < 8 := by omega
              obtain ⟨o, ho⟩ : ∃ o, L.getD k PGram.zero = o := ⟨_, rfl⟩
              have HA := Lib.hid (show PGram.at_ L m2.fr = o by rw [hfr, PGram.at_k]; exact ho)
              have HP := Lib.hid (show ∀ o', PGram.put L m2.fr o' = L.set k o' by intro o'; rw [hfr, PGram.put_k])
              have HO := Lib.hid ho
              have HN := Lib.hid (show m2.fr.toNat = k + 1 by omega)
              have hme' := Lib.hid hme
              have t1 : (m2.dst != me) = false := by simp [hme]
              have HK := Lib.hid (show k < L.length by rw [AS7.out.len]; exact hk)
              clear hm hfr ho hme
              by_cases hlt : m2.boot < o.boot
              · have HE := Lib.hid (show PGram.herr me L (some m2) = 7 by
                  unfold PGram.herr
                  simp only [hme'.out, ne_eq, not_true_eq_false, if_false, HA.out, hlt, if_true])
                have t2 : decide (m2.boot < o.boot) = true := decide_eq_true hlt
                clear hlt
                as_aux_lemma =>
                  refine (hear_no AS7.out.gm.gm R7.out HEB.out (AS7.out.gm.tab HT.out) (by have := HEL.out; omega) HSD.out HE.out (by decide)).mono ?_
                  rintro x w8 ⟨A8, c8, rfl, g8, t8⟩
                  have b9 := (Below.refl w8.heap.size w8).alloc (Nat.le_refl _) (.cells #[.int .i64 0, .int .i64 0, .int .i64 0, .int .i64 0, .int .i64 0, .int .i64 0, .int .i64 0, .int .i64 0, .slice A8 0 c8, .int .i64 0, .int .i64 0, .int .i64 0, .bool false] 30)
                  have AS9 := Lib.hid ((AS7.out.hear g8 t8 rfl rfl rfl).past b9)
                  have KO9 := Lib.hid (Blk.past (AS7.out.gm.blk KO7.out (by decide) t8) b9)
                  have KM9 := Lib.hid (Blk.past (AS7.out.gm.blk KM7.out (by decide) t8) b9)
                  have OW9 := Lib.hid (own_touch (AS7.out.gm.row OW7.out (by decide) t8) (S := []) (Touch.of_below b9) (by simp))
                  have X9 := Lib.hid (show Blk (w8.alloc (.cells #[.int .i64 0, .int .i64 0, .int .i64 0, .int .i64 0, .int .i64 0, .int .i64 0, .int .i64 0, .int .i64 0, .slice A8 0 c8, .int .i64 0, .int .i64 0, .int .i64 0, .bool false] 30)) w8.heap.size 30 (mcs zeroM A8 c8) from Blk.new w8 #[.int .i64 0, .int .i64 0, .int .i64 0, .int .i64 0, .int .i64 0, .int .i64 0, .int .i64 0, .int .i64 0, .slice A8 0 c8, .int .i64 0, .int .i64 0, .int .i64 0, .bool false] 30)
                  clear g8 t8 b9 AS7 KO7 KM7 OW7 R7
                  go_wp2_with ((with_reducible show wpList _ _ _ ((⟨some 131, Op.load _ _, _, _, _, _⟩ : Oper) :: _) _ _); go_must (refine wpList_load_row rfl 30 (.tmp 15) rfl gM rfl 30 #[.int .i64 m2.kind, .int .i64 m2.fr, .int .i64 m2.dst, .int .i64 m2.boot, .int .i64 m2.view, .int .i64 m2.last, .int .i64 m2.mem, .int .i64 m2.pos, .slice A5 m2.es.length c5, .int .i64 m2.com, .int .i64 m2.num, .int .i64 m2.clk, .bool m2.yes] (0, 0) _ KM9.out Tryd.underlying30 rfl (by kernel_rfl) ?_))
                  generalize w8.alloc (.cells #[.int .i64 0, .int .i64 0, .int .i64 0, .int .i64 0, .int .i64 0, .int .i64 0, .int .i64 0, .int .i64 0, .slice A8 0 c8, .int .i64 0, .int .i64 0, .int .i64 0, .bool false] 30) = w9 at *
                  generalize w8.heap.size = gX at *
                  refine (show Calls _ _ #[.agg #[.int .i64 m2.kind, .int .i64 m2.fr, .int .i64 m2.dst, .int .i64 m2.boot, .int .i64 m2.view, .int .i64 m2.last, .int .i64 m2.mem, .int .i64 m2.pos, .slice A5 m2.es.length c5, .int .i64 m2.com, .int .i64 m2.num, .int .i64 m2.clk, .bool m2.yes]] w9 _ from rMayM_c w9 m2 A5 c5 (Rd.of_own OW9.out)).mono ?_
                  rw [HY.out]
                  rintro x w10 ⟨rfl, b10⟩
                  have AS10 := Lib.hid (AS9.out.past b10)
                  have KO10 := Lib.hid (KO9.out.past b10)
                  have KM10 := Lib.hid (KM9.out.past b10)
                  have X10 := Lib.hid (X9.out.past b10)
                  clear b10 AS9 KO9 KM9 X9 OW9
                  have x0 : w10.cell? ⟨gX, 0, none⟩ = some (.int .i64 0) := X10.out.cell (i := 0) rfl
                  have k1 := KM10.out.cell (i := 1) rfl
                  have k2 := KM10.out.cell (i := 2) rfl
                  have k3 := KM10.out.cell (i := 3) rfl
                  have hc : w10.cell? ⟨gb, m2.fr.toNat, none⟩ = some (.int .i64 o.boot) := by rw [HN.out]; exact AS10.out.b.cell (col_at fB HK.out HO.out)
                  go_wp2_with fail
                  go_quiet (fail)
                  go_wp2_with fail
                  go_meet
                  case rel => exact ⟨L, L, Lib.hid (AS10.out.past (below_drewN (Below.refl _ _) _)), Lib.hid (KO10.out.past (below_drewN (Below.refl _ _) _)), Or.inr rfl⟩
              · have HE := Lib.hid (show PGram.herr me L (some m2) = 0 by
                  unfold PGram.herr
                  simp only [hme'.out, ne_eq, not_true_eq_false, if_false, HA.out, hlt])
                have HF := Lib.hid (show PGram.hleft me L (some m2) = L.set k ⟨m2.boot, o.num, o.clk, o.sent⟩ by
                  unfold PGram.hleft
                  simp only [hme'.out, ne_eq, not_true_eq_false, if_false, HA.out, hlt, HP.out])
                have t2 : decide (m2.boot < o.boot) = false := decide_eq_false hlt
                clear hlt
                as_aux_lemma =>
                  refine (hear_ok AS7.out.gm.gm R7.out HEB.out (AS7.out.gm.tab HT.out) (by have := HEL.out; omega) HSD.out rfl HE.out).mono ?_
                  rw [HF.out]
                  rintro x w8 ⟨A8, c8, rfl, o8, g8, t8⟩
                  have b9 := (Below.refl w8.heap.size w8).alloc (Nat.le_refl _) (.cells #[.int .i64 m2.kind, .int .i64 m2.fr, .int .i64 m2.dst, .int .i64 m2.boot, .int .i64 m2.view, .int .i64 m2.last, .int .i64 m2.mem, .int .i64 m2.pos, .slice A8 m2.es.length c8, .int .i64 m2.com, .int .i64 m2.num, .int .i64 m2.clk, .bool m2.yes] 30)
                  have AS9 := Lib.hid ((AS7.out.hear g8 t8 (col_same fN HK.out HO.out rfl) (col_same fA HK.out HO.out rfl) (col_same fS HK.out HO.out rfl)).past b9)
                  have KO9 := Lib.hid (Blk.past (AS7.out.gm.blk KO7.out (by decide) t8) b9)
                  have KM9 := Lib.hid (Blk.past (AS7.out.gm.blk KM7.out (by decide) t8) b9)
                  have OW9 := Lib.hid (own_touch (AS7.out.gm.row OW7.out (by decide) t8) (S := []) (Touch.of_below b9) (by simp))
                  have X9 := Lib.hid (show Blk (w8.alloc (.cells #[.int .i64 m2.kind, .int .i64 m2.fr, .int .i64 m2.dst, .int .i64 m2.boot, .int .i64 m2.view, .int .i64 m2.last, .int .i64 m2.mem, .int .i64 m2.pos, .slice A8 m2.es.length c8, .int .i64 m2.com, .int .i64 m2.num, .int .i64 m2.clk, .bool m2.yes] 30)) w8.heap.size 30 (mcs m2 A8 c8) from Blk.new w8 #[.int .i64 m2.kind, .int .i64 m2.fr, .int .i64 m2.dst, .int .i64 m2.boot, .int .i64 m2.view, .int .i64 m2.last, .int .i64 m2.mem, .int .i64 m2.pos, .slice A8 m2.es.length c8, .int .i64 m2.com, .int .i64 m2.num, .int .i64 m2.clk, .bool m2.yes] 30)
                  have OX9 := Lib.hid (own_touch o8 (S := []) (Touch.of_below b9) (by simp))
                  clear o8 g8 t8 b9 AS7 KO7 KM7 OW7 R7
                  go_wp2_with ((with_reducible show wpList _ _ _ ((⟨some 131, Op.load _ _, _, _, _, _⟩ : Oper) :: _) _ _); go_must (refine wpList_load_row rfl 30 (.tmp 15) rfl gM rfl 30 #[.int .i64 m2.kind, .int .i64 m2.fr, .int .i64 m2.dst, .int .i64 m2.boot, .int .i64 m2.view, .int .i64 m2.last, .int .i64 m2.mem, .int .i64 m2.pos, .slice A5 m2.es.length c5, .int .i64 m2.com, .int .i64 m2.num, .int .i64 m2.clk, .bool m2.yes] (0, 0) _ KM9.out Tryd.underlying30 rfl (by kernel_rfl) ?_))
                  generalize w8.alloc (.cells #[.int .i64 m2.kind, .int .i64 m2.fr, .int .i64 m2.dst, .int .i64 m2.boot, .int .i64 m2.view, .int .i64 m2.last, .int .i64 m2.mem, .int .i64 m2.pos, .slice A8 m2.es.length c8, .int .i64 m2.com, .int .i64 m2.num, .int .i64 m2.clk, .bool m2.yes] 30) = w9 at *
                  generalize w8.heap.size = gX at *
                  refine (show Calls _ _ #[.agg #[.int .i64 m2.kind, .int .i64 m2.fr, .int .i64 m2.dst, .int .i64 m2.boot, .int .i64 m2.view, .int .i64 m2.last, .int .i64 m2.mem, .int .i64 m2.pos, .slice A5 m2.es.length c5, .int .i64 m2.com, .int .i64 m2.num, .int .i64 m2.clk, .bool m2.yes]] w9 _ from rMayM_c w9 m2 A5 c5 (Rd.of_own OW9.out)).mono ?_
                  rw [HY.out]
                  rintro x w10 ⟨rfl, b10⟩
                  have AS10 := Lib.hid (AS9.out.past b10)
                  have KO10 := Lib.hid (KO9.out.past b10)
                  have KM10 := Lib.hid (KM9.out.past b10)
                  have X10 := Lib.hid (X9.out.past b10)
                  have RM10 := Lib.hid (((Rd.of_own OW9.out).past b10).tight)
                  have RX10 := Lib.hid (((Rd.of_own OX9.out).past b10).tight)
                  clear b10 AS9 KO9 KM9 X9 OW9 OX9
                  have k1 := KM10.out.cell (i := 1) rfl
                  have k2 := KM10.out.cell (i := 2) rfl
                  have k3 := KM10.out.cell (i := 3) rfl
                  have hc : w10.cell? ⟨gb, m2.fr.toNat, none⟩ = some (.int .i64 o.boot) := by rw [HN.out]; exact AS10.out.b.cell (col_at fB HK.out HO.out)
                  go_wp2_with fail
                  go_quiet (fail)
                  go_wp2_with (first | ((with_reducible show wpList _ _ _ ((⟨some 154, Op.load _ _, _, _, _, _⟩ : Oper) :: _) _ _); go_must (refine wpList_unguard rfl ?_; refine wpList_load_row rfl 30 (.tmp 16) rfl gX rfl 30 #[.int .i64 m2.kind, .int .i64 m2.fr, .int .i64 m2.dst, .int .i64 m2.boot, .int .i64 m2.view, .int .i64 m2.last, .int .i64 m2.mem, .int .i64 m2.pos, .slice A8 m2.es.length c8, .int .i64 m2.com, .int .i64 m2.num, .int .i64 m2.clk, .bool m2.yes] (0, 0) _ (show Blk (w10.drewN _) gX 30 (mcs m2 A8 c8) from X10.out) Tryd.underlying30 rfl (by kernel_rfl) ?_)) | ((with_reducible show wpList _ _ _ ((⟨some 155, Op.load _ _, _, _, _, _⟩ : Oper) :: _) _ _); go_must (refine wpList_unguard rfl ?_; refine wpList_load_row rfl 30 (.tmp 15) rfl gM rfl 30 #[.int .i64 m2.kind, .int .i64 m2.fr, .int .i64 m2.dst, .int .i64 m2.boot, .int .i64 m2.view, .int .i64 m2.last, .int .i64 m2.mem, .int .i64 m2.pos, .slice A5 m2.es.length c5, .int .i64 m2.com, .int .i64 m2.num, .int .i64 m2.clk, .bool m2.yes] (0, 0) _ (show Blk (w10.drewN _) gM 30 (mcs m2 A5 c5) from KM10.out) Tryd.underlying30 rfl (by kernel_rfl) ?_)))
                  refine (show Calls _ _ #[.agg #[.int .i64 m2.kind, .int .i64 m2.fr, .int .i64 m2.dst, .int .i64 m2.boot, .int .i64 m2.view, .int .i64 m2.last, .int .i64 m2.mem, .int .i64 m2.pos, .slice A8 m2.es.length c8, .int .i64 m2.com, .int .i64 m2.num, .int .i64 m2.clk, .bool m2.yes], .agg #[.int .i64 m2.kind, .int .i64 m2.fr, .int .i64 m2.dst, .int .i64 m2.boot, .int .i64 m2.view, .int .i64 m2.last, .int .i64 m2.mem, .int .i64 m2.pos, .slice A5 m2.es.length c5, .int .i64 m2.com, .int .i64 m2.num, .int .i64 m2.clk, .bool m2.yes]] (w10.drewN _) _ from rEqM_c _ m2 m2 A8 A5 c8 c5 RX10.out RM10.out).mono ?_
                  rw [PMsg.eqM_refl]
                  rintro x w11 ⟨rfl, b11⟩
                  have B11 : Below w10.heap.size w10 w11 := (below_drewN (Below.refl w10.heap.size w10) _).trans b11
                  have AS11 := Lib.hid (AS10.out.past B11)
                  have KO11 := Lib.hid (KO10.out.past B11)
                  have KM11 := Lib.hid (KM10.out.past B11)
                  clear b11 B11 AS10 KO10 KM10 X10 RM10 RX10 k1 k2 k3 hc
                  have k1 := KM11.out.cell (i := 1) rfl
                  have k3 := KM11.out.cell (i := 3) rfl
                  have hc : w11.cell? ⟨gb, m2.fr.toNat, none⟩ = some (.int .i64 o.boot) := by rw [HN.out]; exact AS11.out.b.cell (col_at fB HK.out HO.out)
                  have hf := AS11.out.b.free m2.fr.toNat
                  go_wp2_with fail
                  have AS12 := Lib.hid (show As w (w11.setCell ⟨gb, m2.fr.toNat, none⟩ (.int .i64 m2.boot)) g gb gn ga gs me (L.set k ⟨m2.boot, o.num, o.clk, o.sent⟩) (L.set k ⟨m2.boot, o.num, o.clk, o.sent⟩) by
                    rw [HN.out]
                    exact AS11.out.setB (k := k) (o := ⟨m2.boot, o.num, o.clk, o.sent⟩) (by rw [List.length_set]; exact AS11.out.tl))
                  have KO12 := Lib.hid (KO11.out.far (grown_set w11 gb m2.fr.toNat (.int .i64 m2.boot)) (KO11.out.ne AS11.out.b (by decide)))
                  go_meet
                  case rel => exact ⟨_, _, AS12, KO12, Or.inr rfl⟩
            · have HE := Lib.hid (show PGram.herr me L (some m2) = 1 by
                unfold PGram.herr
                simp only [hme, ne_eq, not_false_eq_true, if_true])
              have t1 : (m2.dst != me) = true := by simp [hme]
              clear hm hme
              as_aux_lemma =>
                refine (hear_no AS7.out.gm.gm R7.out HEB.out (AS7.out.gm.tab HT.out) (by have := HEL.out; omega) HSD.out HE.out (by decide)).mono ?_
                rintro x w8 ⟨A8, c8, rfl, g8, t8⟩
                have b9 := (Below.refl w8.heap.size w8).alloc (Nat.le_refl _) (.cells #[.int .i64 0, .int .i64 0, .int .i64 0, .int .i64 0, .int .i64 0, .int .i64 0, .int .i64 0, .int .i64 0, .slice A8 0 c8, .int .i64 0, .int .i64 0, .int .i64 0, .bool false] 30)
                have AS9 := Lib.hid ((AS7.out.hear g8 t8 rfl rfl rfl).past b9)
                have KO9 := Lib.hid (Blk.past (AS7.out.gm.blk KO7.out (by decide) t8) b9)
                have KM9 := Lib.hid (Blk.past (AS7.out.gm.blk KM7.out (by decide) t8) b9)
                have OW9 := Lib.hid (own_touch (AS7.out.gm.row OW7.out (by decide) t8) (S := []) (Touch.of_below b9) (by simp))
                have X9 := Lib.hid (show Blk (w8.alloc (.cells #[.int .i64 0, .int .i64 0, .int .i64 0, .int .i64 0, .int .i64 0, .int .i64 0, .int .i64 0, .int .i64 0, .slice A8 0 c8, .int .i64 0, .int .i64 0, .int .i64 0, .bool false] 30)) w8.heap.size 30 (mcs zeroM A8 c8) from Blk.new w8 #[.int .i64 0, .int .i64 0, .int .i64 0, .int .i64 0, .int .i64 0, .int .i64 0, .int .i64 0, .int .i64 0, .slice A8 0 c8, .int .i64 0, .int .i64 0, .int .i64 0, .bool false] 30)
                clear g8 t8 b9 AS7 KO7 KM7 OW7 R7
                go_wp2_with ((with_reducible show wpList _ _ _ ((⟨some 131, Op.load _ _, _, _, _, _⟩ : Oper) :: _) _ _); go_must (refine wpList_load_row rfl 30 (.tmp 15) rfl gM rfl 30 #[.int .i64 m2.kind, .int .i64 m2.fr, .int .i64 m2.dst, .int .i64 m2.boot, .int .i64 m2.view, .int .i64 m2.last, .int .i64 m2.mem, .int .i64 m2.pos, .slice A5 m2.es.length c5, .int .i64 m2.com, .int .i64 m2.num, .int .i64 m2.clk, .bool m2.yes] (0, 0) _ KM9.out Tryd.underlying30 rfl (by kernel_rfl) ?_))
                generalize w8.alloc (.cells #[.int .i64 0, .int .i64 0, .int .i64 0, .int .i64 0, .int .i64 0, .int .i64 0, .int .i64 0, .int .i64 0, .slice A8 0 c8, .int .i64 0, .int .i64 0, .int .i64 0, .bool false] 30) = w9 at *
                generalize w8.heap.size = gX at *
                refine (show Calls _ _ #[.agg #[.int .i64 m2.kind, .int .i64 m2.fr, .int .i64 m2.dst, .int .i64 m2.boot, .int .i64 m2.view, .int .i64 m2.last, .int .i64 m2.mem, .int .i64 m2.pos, .slice A5 m2.es.length c5, .int .i64 m2.com, .int .i64 m2.num, .int .i64 m2.clk, .bool m2.yes]] w9 _ from rMayM_c w9 m2 A5 c5 (Rd.of_own OW9.out)).mono ?_
                rw [HY.out]
                rintro x w10 ⟨rfl, b10⟩
                have AS10 := Lib.hid (AS9.out.past b10)
                have KO10 := Lib.hid (KO9.out.past b10)
                have KM10 := Lib.hid (KM9.out.past b10)
                have X10 := Lib.hid (X9.out.past b10)
                clear b10 AS9 KO9 KM9 X9 OW9
                have x0 : w10.cell? ⟨gX, 0, none⟩ = some (.int .i64 0) := X10.out.cell (i := 0) rfl
                have k2 := KM10.out.cell (i := 2) rfl
                go_wp2_with fail
                go_meet
                case rel => exact ⟨L, L, AS10, KO10, Or.inr rfl⟩
          by_cases k1 : kd = 1
          · subst k1
            as_aux_lemma =>
              have kb := KO6.out.cell (i := 15) rfl
              go_wp2_with fail
              refine (Short_c w6 _ BA bc bn bl 30 RB6.out (by decide)).mono ?_
              have HB2 := Lib.hid (show isB (bl.take (30 : Int).toNat) from HBB.out.take _)
              have hm30 : min bn (30 : Int).toNat ≤ 30 := Nat.min_le_right ..
              generalize bl.take (30 : Int).toNat = l2 at *
              generalize min bn (30 : Int).toNat = k2 at *
              rintro x w7 ⟨A7, c7, rfl, rfl, hr⟩
              have R7 := Lib.hid hr
              have HLEN := Lib.hid hr.blen
              clear hr kb KM6 OW6 RB6
              go_wp2_with fail
              obtain ⟨r, hr⟩ : ∃ r, PMsg.dec l2 = r := ⟨_, rfl⟩
              obtain ⟨X, hX⟩ : ∃ X, PGram.hmsg me L r = X := ⟨_, rfl⟩
              obtain ⟨E, hE⟩ : ∃ E, PGram.herr me L r = E := ⟨_, rfl⟩
              have HMR := Lib.hid (show ∀ m, r = some m → PGram.isId m.fr = true from fun m e => decide_eq_true ((PMsg.may_iff m).1 (PMsg.dec_inv HB2.out (hr.trans e)).1).2.1)
              have HFEW := Lib.hid (show k2 < 17 → E = 1 from fun h => by
                have h2 := dec_few HB2.out (by rw [HLEN.out]; exact h)
                rw [← hE, ← hr, h2]; rfl)
              refine (hear_any AS6.out.gm.gm R7.out HB2.out (AS6.out.gm.tab HT.out) (by omega) hr hX hE).mono ?_
              rintro x w8 ⟨A8, c8, rfl, -, g8, t8⟩
              have b9 := (Below.refl w8.heap.size w8).alloc (Nat.le_refl _) (.cells #[.int .i64 X.kind, .int .i64 X.fr, .int .i64 X.dst, .int .i64 X.boot, .int .i64 X.view, .int .i64 X.last, .int .i64 X.mem, .int .i64 X.pos, .slice A8 X.es.length c8, .int .i64 X.com, .int .i64 X.num, .int .i64 X.clk, .bool X.yes] 30)
              have AS9 := Lib.hid ((AS6.out.hear g8 t8 (hleft_col (fun _ _ => rfl) AS6.out.len HMR.out) (hleft_col (fun _ _ => rfl) AS6.out.len HMR.out) (hleft_col (fun _ _ => rfl) AS6.out.len HMR.out)).past b9)
              have KO9 := Lib.hid (Blk.past (AS6.out.gm.blk KO6.out (by decide) t8) b9)
              clear g8 t8 b9 hr hX hE HMR HB2 R7
              by_cases hfew : k2 < 17
              · obtain rfl : E = 1 := HFEW.out hfew
                have t1 : (k2 : Int) < 17 := by omega
                clear hfew HFEW
                go_wp2_with fail
                go_meet
                case rel => exact ⟨_, L, AS9, KO9, Or.inl trivial⟩
              · have t1 : ¬ (k2 : Int) < 17 := by omega
                clear hfew HFEW
                go_wp2_with fail
                go_meet
                case rel => exact ⟨_, L, AS9, KO9, Or.inl trivial⟩
          by_cases k2 : kd = 2
          · subst k2
            as_aux_lemma =>
              have k1 := KO6.out.cell (i := 1) rfl
              have k16 := KO6.out.cell (i := 16) rfl
              have k17 := KO6.out.cell (i := 17) rfl
              go_wp2_with fail
              refine (sent_c w6 g me L AS6.out.gm.gm id num clk).mono ?_
              cases hi : PGram.isId id
              · have hS : PGram.sentL L id num clk = L := if_neg (by rw [hi]; decide)
                rw [hS]
                rintro x w7 ⟨rfl, g7, t7⟩
                have AS7 := Lib.hid (AS6.out.hear g7 t7 rfl rfl rfl)
                have KO7 := Lib.hid (AS6.out.gm.blk KO6.out (by decide) t7)
                have hn := PGram.isId_no hi
                clear g7 t7 AS6 KO6 k1 k16 k17 ko hS KM6 OW6 RB6 hi
                have k1 := KO7.out.cell (i := 1) rfl
                rcases (by omega : id < 1 ∨ ¬ id < 1 ∧ 7 < id) with q1 | ⟨q1, q2⟩
                · have q1' : ¬ 1 ≤ id := by omega
                  go_wp2_with fail
                  go_meet
                  case rel => exact ⟨L, L, AS7, KO7, Or.inr rfl⟩
                · have q1' : 1 ≤ id := by omega
                  have q2' : ¬ id ≤ 7 := by omega
                  go_wp2_with fail
                  go_meet
                  case rel => exact ⟨L, L, AS7, KO7, Or.inr rfl⟩
              · obtain ⟨k, hk, hid, hat, hput⟩ := at_getD (L := L) hi
                have hS : PGram.sentL L id num clk = L.set k ⟨(L.getD k PGram.zero).boot, num, clk, true⟩ := by
                  unfold PGram.sentL
                  rw [if_pos hi, hput, hat]
                rw [hS]
                rintro x w7 ⟨rfl, g7, t7⟩
                have G7 := Lib.hid (AS6.out.gm.go g7 t7)
                have B7 := Lib.hid (AS6.out.gm.blk AS6.out.b (by decide) t7)
                have N7 := Lib.hid (AS6.out.gm.blk AS6.out.n (by decide) t7)
                have A7 := Lib.hid (AS6.out.gm.blk AS6.out.a (by decide) t7)
                have S7 := Lib.hid (AS6.out.gm.blk AS6.out.s (by decide) t7)
                have KO7 := Lib.hid (AS6.out.gm.blk KO6.out (by decide) t7)
                have HAS := Lib.hid AS6.out
                have HN := Lib.hid (show id.toNat = k + 1 by omega)
                have i1 : 1 ≤ id := by omega
                have i7 : id ≤ 7 := by omega
                have i0 : 0 ≤ id := by omega
                have i8 : id < 8 := by omega
                have HK := Lib.hid (show k < L.length by rw [AS6.out.len]; exact hk)
                clear g7 t7 AS6 KO6 k1 k16 k17 ko hS KM6 OW6 RB6 hi hat hput hid
                have k1 := KO7.out.cell (i := 1) rfl
                have k16 := KO7.out.cell (i := 16) rfl
                have k17 := KO7.out.cell (i := 17) rfl
                have cn : w7.cell? ⟨gn, id.toNat, none⟩ = some (fN (L.getD k PGram.zero)) := by rw [HN.out]; exact N7.out.cell (col_at fN HK.out rfl)
                have ca : w7.cell? ⟨ga, id.toNat, none⟩ = some (fA (L.getD k PGram.zero)) := by rw [HN.out]; exact A7.out.cell (col_at fA HK.out rfl)
                have cs : w7.cell? ⟨gs, id.toNat, none⟩ = some (fS (L.getD k PGram.zero)) := by rw [HN.out]; exact S7.out.cell (col_at fS HK.out rfl)
                have fn := N7.out.free id.toNat
                have fa := A7.out.free id.toNat
                have fs := S7.out.free id.toNat
                have e1 : gn ≠ ga := HAS.out.na
                have e2 : ga ≠ gn := HAS.out.na.symm
                have e3 : gn ≠ gs := N7.out.ne S7.out (by decide)
                have e4 : gs ≠ gn := S7.out.ne N7.out (by decide)
                have e5 : ga ≠ gs := A7.out.ne S7.out (by decide)
                have e6 : gs ≠ ga := S7.out.ne A7.out (by decide)
                have d1 : gO ≠ gn := KO7.out.ne N7.out (by decide)
                have d2 : gn ≠ gO := N7.out.ne KO7.out (by decide)
                have d3 : gO ≠ ga := KO7.out.ne A7.out (by decide)
                have d4 : ga ≠ gO := A7.out.ne KO7.out (by decide)
                have d5 : gO ≠ gs := KO7.out.ne S7.out (by decide)
                have d6 : gs ≠ gO := S7.out.ne KO7.out (by decide)
                dsimp only [fN, fA, fS] at cn ca cs
                go_wp2_with fail
                go_big_region
                have AS8 := Lib.hid (show As w (sent3 w7 gn ga gs id.toNat num clk) g gb gn ga gs me (L.set k ⟨(L.getD k PGram.zero).boot, num, clk, true⟩) (L.set k ⟨(L.getD k PGram.zero).boot, num, clk, true⟩) by
                  rw [HN.out]
                  exact As.sent G7.out HK.out rfl B7.out N7.out A7.out S7.out HAS.out.lb HAS.out.ln HAS.out.la HAS.out.ls HAS.out.bn HAS.out.ba HAS.out.na HAS.out.len)
                have KO8 := Lib.hid (show Blk (sent3 w7 gn ga gs id.toNat num clk) gO 33 (gopc 2 id m MA mc BA bn bc num clk) from KO7.out.sent3 d1 d3 d5)
                go_wp2_with fail
                go_meet
                case rel => exact ⟨_, _, AS8, KO8, Or.inr rfl⟩
          as_aux_lemma =>
            have s0 : (kd == 0) = false := by simp [k0]
            have s1 : (kd == 1) = false := by simp [k1]
            have s2 : (kd == 2) = false := by simp [k2]
            have HK1 := Lib.hid k1
            clear k0 k1 k2
            have k17 := KO6.out.cell (i := 17) rfl
            go_wp2_with ((with_reducible show wpList _ _ _ ((⟨some 63, Op.load _ _, _, _, _, _⟩ : Oper) :: _) _ _); go_must (refine wpList_load_row rfl 30 (.tmp 15) rfl gM rfl 30 #[.int .i64 m2.kind, .int .i64 m2.fr, .int .i64 m2.dst, .int .i64 m2.boot, .int .i64 m2.view, .int .i64 m2.last, .int .i64 m2.mem, .int .i64 m2.pos, .slice A5 m2.es.length c5, .int .i64 m2.com, .int .i64 m2.num, .int .i64 m2.clk, .bool m2.yes] (0, 0) _ KM6.out Tryd.underlying30 rfl (by kernel_rfl) ?_))
            obtain ⟨tn, tk, hT⟩ : ∃ tn tk, PGram.took L m2 clk ppm = (tn, tk) := ⟨_, _, rfl⟩
            have e1 := took_c w6 g me L AS6.out.gm.gm m2 A5 c5 clk ppm
            rw [hT] at e1
            refine (show Calls _ _ #[_, .agg #[.int .i64 m2.kind, .int .i64 m2.fr, .int .i64 m2.dst, .int .i64 m2.boot, .int .i64 m2.view, .int .i64 m2.last, .int .i64 m2.mem, .int .i64 m2.pos, .slice A5 m2.es.length c5, .int .i64 m2.com, .int .i64 m2.num, .int .i64 m2.clk, .bool m2.yes], _, _] w6 (fun x w' => x = .returned (.tuple #[.int .i64 tn, .bool tk]) ∧ Below w6.heap.size w6 w') from e1).mono ?_
            have hr : (tn, tk) = if PGram.isId m2.fr = true ∧ m2.kind = 13 ∧ (PGram.at_ L m2.fr).sent = true ∧ (PGram.at_ L m2.fr).num = m2.num then PDelay.bound (PGram.at_ L m2.fr).clk m2.clk m2.clk clk ppm else (0, false) := hT.symm
            have HR := Lib.hid hr
            clear e1 hT hr
            rintro x w8 ⟨rfl, b8⟩
            have AS8 := Lib.hid (AS6.out.past b8)
            have KO8 := Lib.hid (KO6.out.past b8)
            have KM8 := Lib.hid (KM6.out.past b8)
            clear b8 AS6 KO6 KM6 OW6 RB6 ko k17
            have j0 := KM8.out.cell (i := 0) rfl
            have j1 := KM8.out.cell (i := 1) rfl
            have j10 := KM8.out.cell (i := 10) rfl
            by_cases h13 : m2.kind = 13
            · have t13 : (m2.kind == 13) = true := by simp [h13]
              cases hi : PGram.isId m2.fr
              · obtain ⟨rfl, rfl⟩ := Prod.mk.inj (HR.out.trans (if_neg (fun x => by rw [hi] at x; cases x.1)))
                have hn := PGram.isId_no hi
                clear HR hi h13
                rcases (by omega : m2.fr < 1 ∨ 1 ≤ m2.fr ∧ 7 < m2.fr) with q1 | ⟨q1, q2⟩
                · have d1 : decide (1 ≤ m2.fr) = false := decide_eq_false (by omega)
                  clear q1 hn
                  go_wp2_with fail
                  go_quiet (fail)
                  go_wp2_with fail
                  go_meet
                  case rel => exact ⟨L, L, Lib.hid (AS8.out.past (below_drewN (Below.refl _ _) _)), Lib.hid (KO8.out.past (below_drewN (Below.refl _ _) _)), Or.inr rfl⟩
                · have d1 : decide (1 ≤ m2.fr) = true := decide_eq_true q1
                  have d7 : decide (m2.fr ≤ 7) = false := decide_eq_false (by omega)
                  clear q1 q2 hn
                  go_wp2_with fail
                  go_quiet (fail)
                  go_wp2_with fail
                  go_meet
                  case rel => exact ⟨L, L, Lib.hid (AS8.out.past (below_drewN (Below.refl _ _) _)), Lib.hid (KO8.out.past (below_drewN (Below.refl _ _) _)), Or.inr rfl⟩
              · obtain ⟨k, hk, hfr, hat, -⟩ := at_getD (L := L) hi
                obtain ⟨o, ho⟩ : ∃ o, L.getD k PGram.zero = o := ⟨_, rfl⟩
                rw [hat, ho] at HR
                have HI := Lib.hid hi
                have H13 := Lib.hid h13
                have HO := Lib.hid ho
                have HK := Lib.hid (show k < L.length by rw [AS8.out.len]; exact hk)
                have HN := Lib.hid (show m2.fr.toNat = k + 1 by omega)
                have i0 : 0 ≤ m2.fr := by omega
                have i8 : m2.fr < 8 := by omega
                have d1 : decide (1 ≤ m2.fr) = true := decide_eq_true (by omega)
                have d7 : decide (m2.fr ≤ 7) = true := decide_eq_true (by omega)
                obtain ⟨ob, on, oc, os⟩ := o
                simp only at HR
                have cs : w8.cell? ⟨gs, m2.fr.toNat, none⟩ = some (.bool os) := by rw [HN.out]; exact AS8.out.s.cell (col_at fS HK.out HO.out)
                have cn : w8.cell? ⟨gn, m2.fr.toNat, none⟩ = some (.int .i64 on) := by rw [HN.out]; exact AS8.out.n.cell (col_at fN HK.out HO.out)
                clear hi hfr hat ho h13
                cases os
                · obtain ⟨rfl, rfl⟩ := Prod.mk.inj (HR.out.trans (if_neg (fun x => by cases x.2.2.1)))
                  clear HR
                  go_wp2_with fail
                  go_quiet (fail)
                  go_wp2_with fail
                  go_meet
                  case rel => exact ⟨L, L, Lib.hid (AS8.out.past (below_drewN (Below.refl _ _) _)), Lib.hid (KO8.out.past (below_drewN (Below.refl _ _) _)), Or.inr rfl⟩
                · by_cases hn : on = m2.num
                  · have HBD := Lib.hid (HR.out.trans (if_pos ⟨HI.out, H13.out, rfl, hn⟩))
                    have t2 : (on == m2.num) = true := by simp [hn]
                    have HBC := Lib.hid (fun w' => show Calls Tryd.prog 18 #[.agg #[.int .i64 oc, .int .i64 m2.clk, .int .i64 m2.clk, .int .i64 clk], .int .i64 ppm] w' (fun e w'' => e = .returned (.tuple #[.int .i64 tn, .bool tk]) ∧ Below w'.heap.size w' w'') by
                      have := rBound_c w' oc m2.clk m2.clk clk ppm
                      rw [← HBD.out] at this
                      exact this)
                    clear HR hn
                    go_wp2_with fail
                    go_quiet (fail)
                    rename_i nq
                    have AS9 := Lib.hid (AS8.out.past (below_drewN (Below.refl _ _) nq))
                    have KO9 := Lib.hid (KO8.out.past (below_drewN (Below.refl _ _) nq))
                    have KM9 := Lib.hid (KM8.out.past (below_drewN (Below.refl _ _) nq))
                    clear j0 j1 j10 cs cn AS8 KO8 KM8
                    go_wp2_with fail
                    generalize w8.drewN nq = w9 at *
                    have CA := Lib.hid (show w9.cell? ⟨ga, m2.fr.toNat, none⟩ = some (.int .i64 oc) by rw [HN.out]; exact AS9.out.a.cell (col_at fA HK.out HO.out))
                    refine Hb.begin ?_
                    refine Hb.take 0 99 rfl ?_ (fun w' hw' => by go_simp; first | done | rfl)
                    refine Hb.take (v := .int .i64 m2.fr) 1 100 rfl ?_ (fun w' hw' => by have cc := (hw'.cell (p := ⟨gM, 1, none⟩) KM9.out.lt).trans (KM9.out.cell (i := 1) rfl); go_simp)
                    refine Hb.take 2 101 rfl ?_ (fun w' hw' => by go_simp; first | done | rfl)
                    refine Hb.take (v := .int .i64 oc) 3 102 rfl ?_ (fun w' hw' => by have cc := (hw'.cell (p := ⟨ga, m2.fr.toNat, none⟩) AS9.out.a.lt).trans CA.out; go_simp)
                    refine Hb.take 4 103 rfl ?_ (fun w' hw' => by go_simp; first | done | rfl)
                    refine Hb.take (v := .int .i64 m2.clk) 5 104 rfl ?_ (fun w' hw' => by have cc := (hw'.cell (p := ⟨gM, 11, none⟩) KM9.out.lt).trans (KM9.out.cell (i := 11) rfl); go_simp)
                    refine Hb.take 6 105 rfl ?_ (fun w' hw' => by go_simp; first | done | rfl)
                    refine Hb.take (v := .int .i64 m2.clk) 7 106 rfl ?_ (fun w' hw' => by have cc := (hw'.cell (p := ⟨gM, 11, none⟩) KM9.out.lt).trans (KM9.out.cell (i := 11) rfl); go_simp)
                    refine Hb.take 8 107 rfl ?_ (fun w' hw' => by go_simp; first | done | rfl)
                    refine Hb.take (v := .int .i64 clk) 9 108 rfl ?_ (fun w' hw' => by have cc := (hw'.cell (p := ⟨gO, 17, none⟩) KO9.out.lt).trans (KO9.out.cell (i := 17) rfl); go_simp)
                    refine Hb.take (v := .agg #[.int .i64 oc, .int .i64 m2.clk, .int .i64 m2.clk, .int .i64 clk]) 10 109 rfl ?_ (fun w' hw' => by go_simp; first | done | rfl | omega | exact wrap_in (by omega) (by omega) | exact Int.tmod_eq_emod_of_nonneg (by omega) | exact Int.tdiv_eq_ediv_of_nonneg (by omega) | (simp; omega))
                    refine Hb.take (v := .int .i64 ppm) 11 110 rfl ?_ (fun _ _ => rfl)
                    refine Hb.call (f := 18) (args := #[.agg #[.int .i64 oc, .int .i64 m2.clk, .int .i64 m2.clk, .int .i64 clk], .int .i64 ppm]) 12 111 rfl ?_ (run_callf Tryd.func18 (by kernel_rfl) (by kernel_rfl) (by simp only [List.map_toArray, List.map_cons, List.map_nil]; rfl))
                    refine (HBC.out w9.drew).mono ?_
                    rintro x w10 ⟨rfl, b10⟩
                    have B10 := Lib.hid (show Below w9.heap.size w9 w10 from (Below.refl _ _).drew.trans b10)
                    refine Hb.back b10 b10.size ?_
                    refine Hb.take (v := .tuple #[.int .i64 tn, .bool tk]) 13 98 rfl ?_ (fun _ _ => rfl)
                    refine Hb.take (v := .int .i64 tn) 14 112 rfl ?_ (fun w' hw' => by go_simp; first | done | rfl | omega | exact wrap_in (by omega) (by omega) | exact Int.tmod_eq_emod_of_nonneg (by omega) | exact Int.tdiv_eq_ediv_of_nonneg (by omega) | (simp; omega))
                    refine Hb.take (v := .bool tk) 15 113 rfl ?_ (fun w' hw' => by go_simp; first | done | rfl | omega | exact wrap_in (by omega) (by omega) | exact Int.tmod_eq_emod_of_nonneg (by omega) | exact Int.tdiv_eq_ediv_of_nonneg (by omega) | (simp; omega))
                    refine Hb.take (v := .int .i64 tn) 16 24 rfl ?_ (fun _ _ => rfl)
                    refine Hb.take (v := .bool tk) 17 25 rfl ?_ (fun _ _ => rfl)
                    refine Hb.done ?_
                    go_wp2_with fail
                    go_meet
                    case rel => exact ⟨L, L, Lib.hid (AS9.out.past B10.out), Lib.hid (KO9.out.past B10.out), Or.inr rfl⟩
                  · obtain ⟨rfl, rfl⟩ := Prod.mk.inj (HR.out.trans (if_neg (fun x => hn x.2.2.2)))
                    have t2 : (on == m2.num) = false := by simp [hn]
                    clear HR hn
                    go_wp2_with fail
                    go_quiet (fail)
                    go_wp2_with fail
                    go_meet
                    case rel => exact ⟨L, L, Lib.hid (AS8.out.past (below_drewN (Below.refl _ _) _)), Lib.hid (KO8.out.past (below_drewN (Below.refl _ _) _)), Or.inr rfl⟩
            · obtain ⟨rfl, rfl⟩ := Prod.mk.inj (HR.out.trans (if_neg (fun x => h13 x.2.1)))
              have t13 : (m2.kind == 13) = false := by simp [h13]
              clear HR h13
              go_wp2_with fail
              go_quiet (fail)
              go_wp2_with fail
              go_meet
              case rel => exact ⟨L, L, Lib.hid (AS8.out.past (below_drewN (Below.refl _ _) _)), Lib.hid (KO8.out.past (below_drewN (Below.refl _ _) _)), Or.inr rfl⟩
        case rest =>
          obtain ⟨L', T, AS, KO, hT⟩ := hcut
          clear AS6 KO6 OW6 RB6 KM6
          by_cases k1 : kd = 1
          · subst k1
            clear hT
            as_aux_lemma =>
              go_wp2_with fail
              go_loopg [26] 9 (fun k s26 wy => ∃ (j : Nat), k = 9 - j ∧ j ≤ 9 ∧ s26 = .int .i64 j ∧ Hid (As w wy g gb gn ga gs me L' T) ∧ Hid (Blk wy gO 33 (gopc 1 id m MA mc BA bn bc num clk)))
              case atStart => exact ⟨0, by omega, by omega, rfl, AS, KO⟩
              case round =>
                clear AS KO
                obtain ⟨j, rfl, hj9, rfl, AS, KO⟩ := hrel
                have ko := KO.out.cell (i := 0) rfl
                by_cases hj : j ≤ 8
                · have q8 : (j : Int) ≤ 8 := by omega
                  by_cases p1 : (1 : Int) ≤ j
                  · by_cases p7 : (j : Int) ≤ 7
                    · obtain ⟨q, rfl⟩ : ∃ q, j = q + 1 := ⟨j - 1, by omega⟩
                      obtain ⟨o, ho⟩ : ∃ o, T.getD q PGram.zero = o := ⟨_, rfl⟩
                      have hc := AS.out.b.cell (col_at fB (by have := AS.out.tl; omega) ho)
                      dsimp only [fB] at hc
                      clear ho
                      go_wp2_with fail
                      go_roundg (9 - (q + 1 + 1))
                      case measure => omega
                      case rel => exact ⟨q + 1 + 1, rfl, by omega, by go_num, AS, KO⟩
                    · go_wp2_with fail
                      go_roundg (9 - (j + 1))
                      case measure => omega
                      case rel => exact ⟨j + 1, rfl, by omega, by go_num, AS, KO⟩
                  · go_wp2_with fail
                    go_roundg (9 - (j + 1))
                    case measure => omega
                    case rel => exact ⟨j + 1, rfl, by omega, by go_num, AS, KO⟩
                · have q8 : ¬ (j : Int) ≤ 8 := by omega
                  go_wp2_with fail
                  go_loopg [28] 7 (fun k s28 wy => ∃ (j : Nat), k = 7 - j ∧ j ≤ 7 ∧ s28 = .int .i64 ((j : Int) + 1) ∧ Hid (As w wy g gb gn ga gs me L' (L'.take j ++ T.drop j)))
                  case atStart => exact ⟨0, by omega, by omega, rfl, AS⟩
                  case round =>
                    clear AS KO ko hj9 hj q8
                    obtain ⟨q, rfl, hq7, rfl, AS⟩ := hrel
                    by_cases hq : q < 7
                    · have q9 : (q : Int) + 1 ≤ 7 := by omega
                      obtain ⟨o, ho⟩ : ∃ o, L'.getD q PGram.zero = o := ⟨_, rfl⟩
                      have HB := Lib.hid (show PGram.bootOf L' ((q : Int) + 1) = o.boot by rw [← ho, ← PGram.at_k]; exact if_pos (PGram.isId_of hq))
                      obtain ⟨o2, ho2⟩ : ∃ o2, (L'.take q ++ T.drop q).getD q PGram.zero = o2 := ⟨_, rfl⟩
                      have hc := AS.out.b.cell (col_at fB (by have := AS.out.tl; omega) ho2)
                      have hf := AS.out.b.free (q + 1)
                      have HL := Lib.hid AS.out.len
                      have HT7 := Lib.hid AS.out.tl
                      have HS := Lib.hid (takes_next (T := T) (by rw [HL.out]; exact hq) ho (by rw [HT7.out, HL.out]))
                      dsimp only [fB] at hc
                      clear ho ho2
                      go_wp2_with fail
                      refine (boot_c wr g me L' AS.out.gm.gm _).mono ?_
                      rw [HB.out]
                      rintro x w7 ⟨rfl, rfl⟩
                      go_wp2_with fail
                      have AS7 := Lib.hid (AS.out.setB (k := q) (o := o) (by rw [HS.out]; have := HT7.out; simp only [List.length_append, List.length_take, List.length_drop] at this ⊢; have := HL.out; omega))
                      rw [HS.out] at AS7
                      go_roundg (7 - (q + 1))
                      case measure => omega
                      case rel => exact ⟨q + 1, rfl, by omega, by go_num, AS7⟩
                    · have q9 : ¬ (q : Int) + 1 ≤ 7 := by omega
                      obtain rfl : q = 7 := by omega
                      have AS7 := Lib.hid (show As w wr g gb gn ga gs me L' L' by
                        have := AS.out
                        rw [List.take_of_length_le (by rw [AS.out.len]; exact Nat.le_refl _), List.drop_eq_nil_of_le (by have := AS.out.tl; have h2 := AS.out.len; simp only [List.length_append, List.length_take, List.length_drop] at this; omega), List.append_nil] at this
                        exact this)
                      go_wp2_with fail
                      go_roundg (n - (i + 1))
                      case measure => omega
                      case rel => exact ⟨i + 1, L', rfl, by omega, by omega, by go_num, AS7⟩
          · obtain rfl : T = L' := hT.resolve_left k1
            have t3 : (kd != 1) = true := by simp [k1]
            have t4 : (kd == 1) = false := by simp [k1]
            clear hT k1
            as_aux_lemma =>
              go_wp2_with fail
              go_loopg [26] 9 (fun k s26 wy => ∃ (j : Nat), k = 9 - j ∧ j ≤ 9 ∧ s26 = .int .i64 j ∧ Hid (As w wy g gb gn ga gs me T T) ∧ Hid (Blk wy gO 33 (gopc kd id m MA mc BA bn bc num clk)))
              case atStart => exact ⟨0, by omega, by omega, rfl, AS, KO⟩
              case round =>
                clear AS KO
                obtain ⟨j, rfl, hj9, rfl, AS, KO⟩ := hrel
                have ko := KO.out.cell (i := 0) rfl
                by_cases hj : j ≤ 8
                · have q8 : (j : Int) ≤ 8 := by omega
                  cases hi : PGram.isId (j : Int)
                  · have HB := Lib.hid (show PGram.bootOf T (j : Int) = 0 from if_neg (by rw [hi]; decide))
                    have hn := PGram.isId_no hi
                    clear hi
                    rcases (by omega : j = 0 ∨ j = 8) with rfl | rfl
                    · go_wp2_with fail
                      refine (show Calls _ _ #[_, .int .i64 0] wr _ from boot_c wr g me T AS.out.gm.gm 0).mono ?_
                      rw [show PGram.bootOf T 0 = 0 from HB.out]
                      rintro x w7 ⟨rfl, rfl⟩
                      go_wp2_with fail
                      go_roundg (9 - (0 + 1))
                      case measure => omega
                      case rel => exact ⟨0 + 1, rfl, by omega, by go_num, AS, KO⟩
                    · go_wp2_with fail
                      refine (show Calls _ _ #[_, .int .i64 8] wr _ from boot_c wr g me T AS.out.gm.gm 8).mono ?_
                      rw [show PGram.bootOf T 8 = 0 from HB.out]
                      rintro x w7 ⟨rfl, rfl⟩
                      go_wp2_with fail
                      go_roundg (9 - (8 + 1))
                      case measure => omega
                      case rel => exact ⟨8 + 1, rfl, by omega, by go_num, AS, KO⟩
                  · obtain ⟨q, hq, hjq, hat, -⟩ := at_getD (L := T) hi
                    have HB := Lib.hid (show PGram.bootOf T (j : Int) = (T.getD q PGram.zero).boot by rw [← hat]; exact if_pos hi)
                    obtain ⟨o, ho⟩ : ∃ o, T.getD q PGram.zero = o := ⟨_, rfl⟩
                    obtain rfl : j = q + 1 := by omega
                    have hc := AS.out.b.cell (col_at fB (by rw [AS.out.len]; exact hq) ho)
                    have HB2 := Lib.hid (HB.out.trans (by rw [ho]))
                    have p1 : (1 : Int) ≤ ((q + 1 : Nat) : Int) := by omega
                    have p7 : ((q + 1 : Nat) : Int) ≤ 7 := by omega
                    dsimp only [fB] at hc
                    clear hi hjq hat ho HB
                    have e1 : ∀ x, x = (q : Int) + 1 → Calls Tryd.prog 19 #[.pointer (some ⟨g, 0, none⟩), .int .i64 x] wr fun e w' => e = .returned (.int .i64 o.boot) ∧ wr = w' := fun x hx => (boot_c wr g me T AS.out.gm.gm x).mono fun e w' h => ⟨by rw [h.1, hx, ← HB2.out]; simp, h.2⟩
                    have E1 := Lib.hid e1
                    clear e1 HB2
                    go_wp2_with fail
                    refine (E1.out _ (by omega)).mono ?_
                    rintro x w7 ⟨rfl, rfl⟩
                    go_wp2_with fail
                    go_roundg (9 - (q + 1 + 1))
                    case measure => omega
                    case rel => exact ⟨q + 1 + 1, rfl, by omega, by go_num, AS, KO⟩
                · have q8 : ¬ (j : Int) ≤ 8 := by omega
                  go_wp2_with fail
                  go_roundg (n - (i + 1))
                  case measure => omega
                  case rel => exact ⟨i + 1, T, rfl, by omega, by omega, by go_num, AS⟩
      · have t1 : ¬ (i : Int) < 50 := by omega
        go_wp2_with fail
        go_ret
        exact ⟨rfl, AS.out.gm.bel⟩
    · go_wp2_with fail
      go_ret
      exact ⟨rfl, AS.out.gm.bel⟩
end Go.Proofs.YtfijjdahoimoeaaDoor

