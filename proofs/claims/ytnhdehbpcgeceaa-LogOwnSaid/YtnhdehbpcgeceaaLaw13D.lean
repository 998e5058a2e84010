/- The walk of LogOwn. -/
import Derived.Test.YtnhdehbpcgeceaaLogF
import Derived.Test.YtnhdehbpcgeceaaEntL
namespace Go.Proofs.Ytnhdehbpcgeceaa
open Go.RowKit

set_option maxHeartbeats 8000000 in
set_option maxRecDepth 100000 in
theorem LogOwn_w (w : World) (A : Option Addr) (c n : Nat) (z : List Ent) (R : Rd w w.heap.size A c 7 n (els z)) (ok : ∀ e ∈ z, EntOk e) :
    Calls Try.prog 8 #[.slice A n c] w fun e w' => e = .returned (.bool true) ∧ Below w.heap.size w w' := by
  have P1 := Lib.hid R
  have O1 := Lib.hid ok
  clear R ok
  go_enter Try.func8, Try.ntmps8
  go_wp2_with fail
  refine (begun_c w).mono ?_
  rintro x w1 ⟨rfl, b1⟩
  have B1 := Lib.hid b1
  clear b1
  go_wp2_with fail
  refine (lEntries_c w1 A c n z 10 (P1.out.past B1.out).tight O1.out (by omega) (by omega)).mono ?_
  rintro x w2 ⟨A2, c2, es, rfl, hl2, o2, -, b2⟩
  have N2 := Lib.hid (Rd.of_own o2)
  have B2 := Lib.hid (B1.out.trans (b2.mono B1.out.size))
  clear o2 b2 B1 P1 O1 hl2
  go_wp2_with fail
  refine (rLog_c w2 _ A2 c2 es.length es N2.out).mono ?_
  have HW0 := Lib.hid (PLog.log_ok es)
  have HWL := Lib.hid (PLog.log_len es)
  generalize PLog.log es = W at *
  obtain ⟨m, hm⟩ : ∃ m, W.length = m := ⟨_, rfl⟩
  have HM := Lib.hid hm
  have hm60 : m ≤ 60 := by rw [← hm]; exact HWL.out
  rw [hm]
  clear hm
  rintro x w3 ⟨A3, c3, rfl, o3, b3⟩
  have N3 := Lib.hid (Rd.of_own o3)
  have B3 := Lib.hid (B2.out.trans (b3.mono B2.out.size))
  clear o3 b3 B2 N2
  go_wp2_with (at_builtin; go_must (refine wpList_app rfl (.const (.slice none 0 0)) (.tmp 16) 22 rfl w3.heap.size 34 _ 7 64 Try.underlying22 ent_info rfl (by omega) _ 0 [] rfl (World.ownsRow_nil _ _ _ _) _ A3 c3 m (els W) rfl N3.out (els_one _) ?d1 ?d2 (Nat.le_refl _) ?_))
  case d1 => unfold maxLen; omega
  case d2 => omega
  intro A4 c4 w4 o4 g4 b4
  replace o4 : w4.ownsRow w3.heap.size 34 7 (.slice A4 m c4) m (els W) := by simpa using o4
  have e0 : (0 + m) = m := by omega
  try rw [e0]
  clear e0
  have O4 := Lib.hid (Ow.of_own o4)
  have N4 := Lib.hid (N3.out.past b4)
  have HA34 := Lib.hid (show ∀ q, bk A4 = some q → 0 < m * 7 → bk A3 ≠ some q from fun q hq h0 => N3.out.apart (S := [q]) (by simpa using (Ow.of_own o4).low q hq) h0 q (by simp))
  have B4 := Lib.hid (B3.out.trans (b4.mono B3.out.size))
  clear o4 b4 g4 N3
  go_wp2_with fail
  refine (New_c w4 0 none 0 0 [] (Rd.nil _ _ _)).mono ?_
  rintro x w5 ⟨g, F, rfl, l5, f5, b5⟩
  have L5 := Lib.hid (show Lg w5 g F [] from l5)
  have HF5 := Lib.hid f5
  have O5 := Lib.hid (O4.out.past b5)
  have N5 := Lib.hid (N4.out.past b5)
  have B5 := Lib.hid (B4.out.trans (b5.mono B4.out.size))
  have HD5 := Lib.hid (show ∀ k ∈ F, bk A4 ≠ some k from fun k hk e => by have := O4.out.hi k e; have := f5 k hk; omega)
  have HD5' := Lib.hid (show 0 < m * 7 → ∀ k ∈ F, bk A3 ≠ some k from N4.out.tight.apart f5)
  have HOK := Lib.hid (show PLog.okPut [] 0 W = true from HW0.out)
  have HPT := Lib.hid (show PLog.put [] 0 W = W by unfold PLog.put; rw [HOK.out]; rfl)
  clear l5 f5 b5 O4 N4
  go_wp2_with fail
  refine (show Calls Try.prog 18 #[.pointer (some ⟨g, 0, none⟩), .int .i64 0, .slice A4 m c4] w5 _ from Put_in w5 g F [] L5.out 0 (Nat.zero_le _) _ A4 c4 m W O5.out.rd (fun _ => HD5.out)).mono ?_
  rw [HOK.out, HPT.out]
  rintro x w6 ⟨rfl, ⟨⟨F6, l6, f6⟩, t6⟩⟩
  have L6 := Lib.hid l6
  have O6 := Lib.hid (O5.out.touch t6 (fun k hk => HD5.out k hk))
  have N6 := Lib.hid (N5.out.touch t6 HD5'.out)
  have HD6 := Lib.hid (show ∀ k ∈ F6, bk A4 ≠ some k from fun k hk e => (f6 k hk).elim (fun h => HD5.out k h e) (fun h => by have := O5.out.hi k e; omega))
  have B6 := Lib.hid (B5.out.trans (t6.below (fun k hk => Nat.le_trans B4.out.size (HF5.out k hk)) B5.out.size))
  clear l6 f6 t6 L5 O5 N5 HD5 HD5' B5 HF5 HOK HPT
  go_wp2_with fail
  go_loopw [7] (fun s7 wr => ∃ (i : Nat) (xs : List Value), i ≤ m ∧ s7 = .int .i64 i ∧ Hid (Ow wr w3.heap.size 34 7 A4 m c4 xs) ∧ Hid (Lg wr g F6 W) ∧ Hid (Rd wr w3.heap.size A3 c3 7 m (els W)) ∧ Hid (Below w.heap.size w wr)) (fun s7 _ => m - (intOf s7).toNat)
  case atStart => exact ⟨0, _, by omega, rfl, O6, L6, N6, B6⟩
  case round =>
    clear O6 L6 N6 B6
    obtain ⟨i, xs, hi, rfl, OR, LR, NR, BR⟩ := hrel
    by_cases hin : i < m
    · obtain ⟨q, rfl, hq1, hq2⟩ := OR.out.some (by omega)
      have hxl := OR.out.1
      obtain ⟨u, hu⟩ : ∃ u, xs[i * 7 + 2]? = some u := ⟨xs[i * 7 + 2]'(by omega), List.getElem?_eq_getElem _⟩
      obtain ⟨d1, d2⟩ := OR.out.cell rfl hu
      have O7 := Lib.hid (OR.out.set rfl (show i * 7 + 2 < xs.length by omega) (.int .i64 5555))
      have hs := Touch.of_grown (grown_set wr q (i * 7 + 2) (.int .i64 5555))
      have L7 := Lib.hid (LR.out.touch hs (fun k hk hm => by
        obtain rfl : k = q := by simpa using hk
        exact HD6.out k hm rfl))
      have N7 := Lib.hid (NR.out.touch hs (fun h0 k hk => by
        obtain rfl : k = q := by simpa using hk
        exact HA34.out k rfl h0))
      have B7 := Lib.hid (BR.out.trans (hs.below (fun k hk => by
        obtain rfl : k = q := by simpa using hk
        exact Nat.le_trans B3.out.size hq1) BR.out.size))
      clear hs hu hxl hq1 hq2
      go_wp2_with fail
      go_roundw
      case rel => exact ⟨i + 1, _, by omega, by go_num, O7, L7, N7, B7⟩
      case measure => simp [intOf]; omega
    · obtain rfl : i = m := by omega
      clear hin hi
      go_wp2_with fail
      refine (From_0 wr g F6 W LR.out).mono ?_
      rw [HM.out]
      rintro x w8 ⟨A8, c8, rfl, o8, b8⟩
      have O8 := Lib.hid (Ow.of_own o8)
      have L8 := Lib.hid (LR.out.past b8)
      have N8 := Lib.hid (NR.out.past b8)
      have B8 := Lib.hid (BR.out.trans (b8.mono BR.out.size))
      have HD8 := Lib.hid (show ∀ k ∈ F6, bk A8 ≠ some k from fun k hk e => by have h1 := (Ow.of_own o8).low k e; have := LR.out.hi k hk; omega)
      have HA38 := Lib.hid (show ∀ q, bk A8 = some q → 0 < i * 7 → bk A3 ≠ some q from fun q hq h0 => NR.out.tight.apart (S := [q]) (by simpa using (Ow.of_own o8).low q hq) h0 q (by simp))
      have S8 := Lib.hid BR.out.size
      clear o8 b8 OR LR NR BR
      go_wp2_with fail
      generalize wr = w7 at *
      go_loopw [9] (fun s9 wr => ∃ (j : Nat) (xs : List Value), j ≤ i ∧ s9 = .int .i64 j ∧ Hid (Ow wr w7.heap.size 34 7 A8 i c8 xs) ∧ Hid (Lg wr g F6 W) ∧ Hid (Rd wr w3.heap.size A3 c3 7 i (els W)) ∧ Hid (Below w.heap.size w wr)) (fun s9 _ => i - (intOf s9).toNat)
      case atStart => exact ⟨0, _, by omega, rfl, O8, L8, N8, B8⟩
      case round =>
        clear O8 L8 N8 B8
        obtain ⟨j, ys, hj, rfl, OR, LR, NR, BR⟩ := hrel
        by_cases hjn : j < i
        · obtain ⟨q, rfl, hq1, hq2⟩ := OR.out.some (by omega)
          have hxl := OR.out.1
          obtain ⟨u, hu⟩ : ∃ u, ys[j * 7 + 6]? = some u := ⟨ys[j * 7 + 6]'(by omega), List.getElem?_eq_getElem _⟩
          obtain ⟨d1, d2⟩ := OR.out.cell rfl hu
          have O9 := Lib.hid (OR.out.set rfl (show j * 7 + 6 < ys.length by omega) (.string ⟨#[115, 112, 111, 105, 108, 116]⟩))
          have hs := Touch.of_grown (grown_set wr q (j * 7 + 6) (.string ⟨#[115, 112, 111, 105, 108, 116]⟩))
          have L9 := Lib.hid (LR.out.touch hs (fun k hk hm => by
            obtain rfl : k = q := by simpa using hk
            exact HD8.out k hm rfl))
          have N9 := Lib.hid (NR.out.touch hs (fun h0 k hk => by
            obtain rfl : k = q := by simpa using hk
            exact HA38.out k rfl h0))
          have B9 := Lib.hid (BR.out.trans (hs.below (fun k hk => by
            obtain rfl : k = q := by simpa using hk
            exact Nat.le_trans S8.out hq1) BR.out.size))
          clear hs hu hxl hq1 hq2
          go_wp2_with fail
          go_roundw
          case rel => exact ⟨j + 1, _, by omega, by go_num, O9, L9, N9, B9⟩
          case measure => simp [intOf]; omega
        · obtain rfl : j = i := by omega
          clear hjn hj
          go_wp2_with fail
          refine (same_c wr g F6 W LR.out _ A3 c3 j NR.out).mono ?_
          rintro x w9 ⟨rfl, b9⟩
          go_wp2_with fail
          go_ret
          exact ⟨rfl, BR.out.trans (b9.mono BR.out.size)⟩
end Go.Proofs.Ytnhdehbpcgeceaa
