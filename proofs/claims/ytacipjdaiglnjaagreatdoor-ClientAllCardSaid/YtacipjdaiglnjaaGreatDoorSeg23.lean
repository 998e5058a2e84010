/- Contract of the document's MayMsg. -/
import Derived.Test.YtacipjdaiglnjaaGreatDoorSeg21
import Derived.Test.YtacipjdaiglnjaaGreatDoorSeg22
namespace Go.Proofs.YtacipjdaiglnjaaGreatDoor
open Go.RowKit

set_option maxHeartbeats 4000000 in
set_option maxRecDepth 100000 in
theorem rMayM_c (w : World) (m : Msg) (A : Option Addr) (c : Nat) (h : Rd w w.heap.size A c 7 m.es.length (els m.es)) :
    Calls Tryz.prog 58 #[mv m A c] w fun x w' => x = .returned (.bool (PMsg.may m)) ∧ Below w.heap.size w w' := by
  by_cases hg : May1 m
  case neg => exact rMay_bad w m A c hg
  obtain ⟨kind, fr, dst, boot, view, last, mem, pos, es, com, num, clk, yes⟩ := m
  have W1 := Lib.hid ((Below.refl w.heap.size w).alloc (Nat.le_refl _) (.cells #[.int .i64 kind, .int .i64 fr, .int .i64 dst, .int .i64 boot, .int .i64 view, .int .i64 last, .int .i64 mem, .int .i64 pos, .slice A es.length c, .int .i64 com, .int .i64 num, .int .i64 clk, .bool yes] 31))
  obtain ⟨⟨k0, k1⟩, ⟨f0, f1⟩, ⟨d0, d1⟩, hne, b0⟩ := hg
  have R0 := Lib.hid h
  clear h
  simp only at k0 k1 f0 f1 d0 d1 hne b0
  have hq : (fr == dst) = false := by simpa using hne
  have HK := Lib.hid (And.intro k0 k1)
  have HF := Lib.hid (And.intro f0 f1)
  have HD := Lib.hid (And.intro d0 d1)
  have HN3 := Lib.hid hne
  have HB0 := Lib.hid b0
  clear hne
  show Calls _ _ #[.agg #[.int .i64 kind, .int .i64 fr, .int .i64 dst, .int .i64 boot, .int .i64 view, .int .i64 last, .int .i64 mem, .int .i64 pos, .slice A es.length c, .int .i64 com, .int .i64 num, .int .i64 clk, .bool yes]] _ _
  go_enter Tryz.func58, Tryz.ntmps58
  go_wp2_with fail
  refine (rNum_c _ boot).mono ?_
  cases hD : decide (0 ≤ boot ∧ boot ≤ 1099511627776)
  · have HN := Lib.hid (show PMsg.may ⟨kind, fr, dst, boot, view, last, mem, pos, es, com, num, clk, yes⟩ = false from PMsg.may_no.2 fun h => of_decide_eq_false hD ⟨by have := h.2.2.2.2.1.1; dsimp only at this; omega, h.2.2.2.2.1.2⟩)
    clear hD
    rintro x wx ⟨rfl, rfl⟩
    go_wp2_with fail
    go_ret
    exact ⟨by rw [HN.out]; rfl, W1.out⟩
  have H_boot := Lib.hid (of_decide_eq_true hD)
  clear hD
  rintro x wx ⟨rfl, rfl⟩
  go_wp2_with fail
  refine (rNum_c _ view).mono ?_
  cases hD : decide (0 ≤ view ∧ view ≤ 1099511627776)
  · have HN := Lib.hid (show PMsg.may ⟨kind, fr, dst, boot, view, last, mem, pos, es, com, num, clk, yes⟩ = false from PMsg.may_no.2 fun h => of_decide_eq_false hD h.2.2.2.2.2.1)
    clear hD
    rintro x wx ⟨rfl, rfl⟩
    go_wp2_with fail
    go_ret
    exact ⟨by rw [HN.out]; rfl, W1.out⟩
  have H_view := Lib.hid (of_decide_eq_true hD)
  clear hD
  rintro x wx ⟨rfl, rfl⟩
  go_wp2_with fail
  refine (rNum_c _ last).mono ?_
  cases hD : decide (0 ≤ last ∧ last ≤ 1099511627776)
  · have HN := Lib.hid (show PMsg.may ⟨kind, fr, dst, boot, view, last, mem, pos, es, com, num, clk, yes⟩ = false from PMsg.may_no.2 fun h => of_decide_eq_false hD h.2.2.2.2.2.2.1)
    clear hD
    rintro x wx ⟨rfl, rfl⟩
    go_wp2_with fail
    go_ret
    exact ⟨by rw [HN.out]; rfl, W1.out⟩
  have H_last := Lib.hid (of_decide_eq_true hD)
  clear hD
  rintro x wx ⟨rfl, rfl⟩
  go_wp2_with fail
  refine (rNum_c _ num).mono ?_
  cases hD : decide (0 ≤ num ∧ num ≤ 1099511627776)
  · have HN := Lib.hid (show PMsg.may ⟨kind, fr, dst, boot, view, last, mem, pos, es, com, num, clk, yes⟩ = false from PMsg.may_no.2 fun h => of_decide_eq_false hD h.2.2.2.2.2.2.2.2.2.2.1)
    clear hD
    rintro x wx ⟨rfl, rfl⟩
    go_wp2_with fail
    go_ret
    exact ⟨by rw [HN.out]; rfl, W1.out⟩
  have H_num := Lib.hid (of_decide_eq_true hD)
  clear hD
  rintro x wx ⟨rfl, rfl⟩
  go_wp2_with fail
  refine (rNum_c _ clk).mono ?_
  cases hD : decide (0 ≤ clk ∧ clk ≤ 1099511627776)
  · have HN := Lib.hid (show PMsg.may ⟨kind, fr, dst, boot, view, last, mem, pos, es, com, num, clk, yes⟩ = false from PMsg.may_no.2 fun h => of_decide_eq_false hD h.2.2.2.2.2.2.2.2.2.2.2.1)
    clear hD
    rintro x wx ⟨rfl, rfl⟩
    go_wp2_with fail
    go_ret
    exact ⟨by rw [HN.out]; rfl, W1.out⟩
  have H_clk := Lib.hid (of_decide_eq_true hD)
  clear hD
  rintro x wx ⟨rfl, rfl⟩
  rcases Int.lt_or_le mem 0 with cb | m0
  · have HN := Lib.hid (show PMsg.may ⟨kind, fr, dst, boot, view, last, mem, pos, es, com, num, clk, yes⟩ = false from PMsg.may_no.2 fun h => by have := h.2.2.2.2.2.2.2.1; dsimp only at this; omega)
    go_wp2_with fail
    go_ret
    exact ⟨by rw [HN.out]; rfl, W1.out⟩
  rcases Int.lt_or_le 127 mem with cb | m1
  · have HN := Lib.hid (show PMsg.may ⟨kind, fr, dst, boot, view, last, mem, pos, es, com, num, clk, yes⟩ = false from PMsg.may_no.2 fun h => by have := h.2.2.2.2.2.2.2.1; dsimp only at this; omega)
    go_wp2_with fail
    go_ret
    exact ⟨by rw [HN.out]; rfl, W1.out⟩
  rcases Int.lt_or_le pos 0 with cb | p0
  · have HN := Lib.hid (show PMsg.may ⟨kind, fr, dst, boot, view, last, mem, pos, es, com, num, clk, yes⟩ = false from PMsg.may_no.2 fun h => by have := h.2.2.2.2.2.2.2.2.1; dsimp only at this; omega)
    go_wp2_with fail
    go_ret
    exact ⟨by rw [HN.out]; rfl, W1.out⟩
  rcases Int.lt_or_le 60 pos with cb | p1
  · have HN := Lib.hid (show PMsg.may ⟨kind, fr, dst, boot, view, last, mem, pos, es, com, num, clk, yes⟩ = false from PMsg.may_no.2 fun h => by have := h.2.2.2.2.2.2.2.2.1; dsimp only at this; omega)
    go_wp2_with fail
    go_ret
    exact ⟨by rw [HN.out]; rfl, W1.out⟩
  rcases Int.lt_or_le com 0 with cb | c0
  · have HN := Lib.hid (show PMsg.may ⟨kind, fr, dst, boot, view, last, mem, pos, es, com, num, clk, yes⟩ = false from PMsg.may_no.2 fun h => by have := h.2.2.2.2.2.2.2.2.2.1; dsimp only at this; omega)
    go_wp2_with fail
    go_ret
    exact ⟨by rw [HN.out]; rfl, W1.out⟩
  rcases Int.lt_or_le 60 com with cb | c1
  · have HN := Lib.hid (show PMsg.may ⟨kind, fr, dst, boot, view, last, mem, pos, es, com, num, clk, yes⟩ = false from PMsg.may_no.2 fun h => by have := h.2.2.2.2.2.2.2.2.2.1; dsimp only at this; omega)
    go_wp2_with fail
    go_ret
    exact ⟨by rw [HN.out]; rfl, W1.out⟩
  rcases Int.lt_or_le 60 (es.length : Int) with cb | l0
  · have HN := Lib.hid (show PMsg.may ⟨kind, fr, dst, boot, view, last, mem, pos, es, com, num, clk, yes⟩ = false from PMsg.may_no.2 fun h => by have := h.2.2.2.2.2.2.2.2.2.2.2.2.1; dsimp only at this; omega)
    go_wp2_with fail
    go_ret
    exact ⟨by rw [HN.out]; rfl, W1.out⟩
  have HMR := Lib.hid (may_rest (m := ⟨kind, fr, dst, boot, view, last, mem, pos, es, com, num, clk, yes⟩) HK.out HF.out HD.out HN3.out ⟨HB0.out, H_boot.out.2⟩ H_view.out H_last.out ⟨m0, m1⟩ ⟨p0, p1⟩ ⟨c0, c1⟩ H_num.out H_clk.out)
  have HL60 := Lib.hid l0
  have R1 := Lib.hid (R0.out.past W1.out)
  have K1 := Blk.new w #[.int .i64 kind, .int .i64 fr, .int .i64 dst, .int .i64 boot, .int .i64 view, .int .i64 last, .int .i64 mem, .int .i64 pos, .slice A es.length c, .int .i64 com, .int .i64 num, .int .i64 clk, .bool yes] 31
  go_wp2_with fail
  clear m0 m1 p0 p1 c0 c1 l0 hq k0 k1 f0 f1 d0 d1 b0
  generalize w.alloc (.cells #[.int .i64 kind, .int .i64 fr, .int .i64 dst, .int .i64 boot, .int .i64 view, .int .i64 last, .int .i64 mem, .int .i64 pos, .slice A es.length c, .int .i64 com, .int .i64 num, .int .i64 clk, .bool yes] 31) = w1 at *
  have KM := Lib.hid K1
  have R2 := Lib.hid R1.out.tight
  clear K1 R0 R1 HK HF HD HN3 HB0 H_boot H_view H_last H_num H_clk
  go_loopw [3] (fun s3 wr => ∃ i : Nat, i ≤ es.length ∧ s3 = .int .i64 i ∧ Hid ((es.take i).all PEnt.may = true) ∧ Hid (Below w1.heap.size w1 wr)) (fun s3 _ => es.length - (intOf s3).toNat)
  case atStart => exact ⟨0, by omega, rfl, Lib.hid (by simp), Lib.hid (Below.refl _ _)⟩
  case round =>
    obtain ⟨i, hi, rfl, HA, BL⟩ := hrel
    have k8 := (KM.out.past BL.out).cell (i := 8) rfl
    by_cases hlt : i < es.length
    · obtain ⟨b, o, e, rfl, -, he, hmem, d0, d1, d2, d3, d4, d5, d6⟩ := (R2.out.below BL.out).ent hlt
      have HE := Lib.hid he
      have HM := Lib.hid hmem
      have HL6 := HL60.out
      clear he hmem
      go_wp2_with fail
      clear d0 d1 d2 d3 d4 d5 d6 k8
      refine (rMay_c wr e).mono ?_
      cases hy : PEnt.may e
      · have HB := Lib.hid (HMR.out.trans (mayEs_bad HM.out hy))
        rintro x w2 ⟨rfl, b2⟩
        have B2 := Lib.hid (W1.out.trans ((BL.out.trans (b2.mono BL.out.size)).mono W1.out.size))
        clear b2 hy
        go_wp2_with fail
        go_ret
        exact ⟨by rw [HB.out]; rfl, B2.out⟩
      · have HS1 := Lib.hid (show (es.take (i + 1)).all PEnt.may = true by rw [all_snoc HE.out, HA.out, hy]; rfl)
        rintro x w2 ⟨rfl, b2⟩
        have B2 := Lib.hid (BL.out.trans (b2.mono BL.out.size))
        clear b2 hy BL
        go_wp2_with fail
        go_roundw
        case rel => exact ⟨i + 1, by omega, by go_num, HS1, B2⟩
        case measure => simp [intOf]; omega
    · obtain rfl : i = es.length := by omega
      have ht : es.take es.length = es := List.take_of_length_le (Nat.le_refl _)
      rw [ht] at HA
      have HB := Lib.hid (HMR.out.trans (mayEs_good (l := es) (by have := HL60.out; omega) HA.out))
      have B2 := Lib.hid (W1.out.trans (BL.out.mono W1.out.size))
      clear ht
      go_wp2_with fail
      go_ret
      exact ⟨by rw [HB.out]; rfl, B2.out⟩
end Go.Proofs.YtacipjdaiglnjaaGreatDoor

