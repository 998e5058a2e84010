/- The walks of LogFront, LogPut. -/
import Derived.Test.YtnhdehbpcgeceaaLogF
import Derived.Test.YtnhdehbpcgeceaaEntL
namespace Go.Proofs.Ytnhdehbpcgeceaa
open Go.RowKit

set_option maxHeartbeats 8000000 in
set_option maxRecDepth 100000 in
theorem LogFront_w (w : World) (A : Option Addr) (c n : Nat) (z : List Ent) (A2 : Option Addr) (c2 n2 : Nat) (z2 : List Ent) (k : Int) (R : Rd w w.heap.size A c 7 n (els z)) (ok : ∀ e ∈ z, EntOk e) (R2 : Rd w w.heap.size A2 c2 7 n2 (els z2)) (ok2 : ∀ e ∈ z2, EntOk e) :
    Calls Try.prog 5 #[.slice A n c, .slice A2 n2 c2, .int .i64 k] w fun e w' => e = .returned (.bool true) ∧ Below w.heap.size w w' := by
  have P1 := Lib.hid R
  have P2 := Lib.hid R2
  have O1 := Lib.hid ok
  have O2 := Lib.hid ok2
  clear R R2 ok ok2
  go_enter Try.func5, Try.ntmps5
  go_wp2_with fail
  refine (begun_c w).mono ?_
  rintro x w1 ⟨rfl, b1⟩
  have B1 := Lib.hid b1
  clear b1
  go_wp2_with fail
  refine (lEntries_c w1 A c n z 8 (P1.out.past B1.out).tight O1.out (by omega) (by omega)).mono ?_
  rintro x w3 ⟨A3, c3, es, rfl, -, o3, -, b3⟩
  have N3 := Lib.hid (Rd.of_own o3)
  have B3 := Lib.hid (B1.out.trans (b3.mono B1.out.size))
  clear o3 b3
  go_wp2_with fail
  refine (lEntries_c w3 A2 c2 n2 z2 8 (P2.out.past B3.out).tight O2.out (by omega) (by omega)).mono ?_
  rintro x w4 ⟨A4, c4, fs, rfl, hl4, o4, -, b4⟩
  have N4 := Lib.hid (Rd.of_own o4)
  have M3 := Lib.hid ((N3.out.past b4).tight)
  have B4 := Lib.hid (B3.out.trans (b4.mono B3.out.size))
  have h8 : fs.length ≤ 8 := by have := hl4; simp at this; omega
  clear o4 b4 N3 B3 B1 P1 P2 O1 O2 hl4
  obtain ⟨p, hp⟩ : ∃ p, es.length = p := ⟨_, rfl⟩
  obtain ⟨q, hq⟩ : ∃ q, fs.length = q := ⟨_, rfl⟩
  have HP := Lib.hid hp
  have HQ := Lib.hid hq
  rw [hp] at M3 ⊢
  rw [hq] at N4 ⊢ h8
  clear hp hq
  -- behind the first test: the program's answer, the rest
  have fin : ∀ (W : World), Below w4.heap.size w4 W → ∀ (fr : Bool), PLog.front es fs = fr → True := fun _ _ _ _ => trivial
  clear fin
  by_cases hle : p ≤ q
  · obtain ⟨A5, c5, hrun, r5⟩ := cut_any (P := Try.prog) (w := w4) 22 34 Try.underlying22 ent_info N4.out none (some (.int .i64 p)) 0 p 0 p (Or.inl ⟨rfl, rfl⟩) (Or.inr ⟨rfl, rfl⟩) (Nat.zero_le _) hle
    have e5 : ((els fs).drop (0 * 7)).take ((p - 0) * 7) = els (fs.take p) := by rw [Nat.zero_mul, List.drop_zero, Nat.sub_zero, els_take]
    rw [e5, Nat.sub_zero] at r5
    rw [Nat.sub_zero] at hrun
    have HE := Lib.hid (show PEnt.eqL es (fs.take p) = PLog.front es fs by unfold PLog.front; rw [HP.out, HQ.out, decide_eq_true hle]; rfl)
    have jle : (p : Int) ≤ (q : Int) := by omega
    have R5 := Lib.hid r5
    have HMN := Lib.hid (Nat.min_eq_left hle)
    clear r5 e5 hle
    go_wp2_with (first | ((with_reducible show wpList _ _ _ ((⟨some 28, Op.call _, _, _, _, _⟩ : Oper) :: _) _ _); (refine wpList_unguard rfl ?_; refine wpList_min rfl _ _ _ rfl (p) (q) rfl rfl ?_; rw [HMN.out])) | ((with_reducible show wpList _ _ _ ((⟨some 29, Op.slice _ _ _ _ _, _, _, _, _⟩ : Oper) :: _) _ _); (refine wpList_unguard rfl ?_; refine wpList_plain rfl fun K hK => ?_; unfold Oper.wp; rw [run_sliceOp (hrun _), Oper.upon_value]; refine hK _ _ ?_)))
    refine (EqAll_c w4 A3 A5 c3 p c5 p es (fs.take p) M3.out R5.out.tight).mono ?_
    rw [HE.out]
    rintro x w5 ⟨rfl, b5⟩
    have N5 := Lib.hid (N4.out.past b5).tight
    have M5 := Lib.hid (M3.out.past b5).tight
    have B5 := Lib.hid (B4.out.trans (b5.mono B4.out.size))
    clear b5 B4 M3 N4 R5 HE HMN jle hrun
    cases hf : PLog.front es fs
    · have HE := Lib.hid hf
      clear hf
      go_wp2_with fail
      refine (Front_c w5 _ _ A3 A4 c3 p c4 q es fs M5.out N5.out).mono ?_
      rw [HE.out]
      rintro x w6 ⟨rfl, b6⟩
      have N6 := Lib.hid (N5.out.past b6).tight
      have B6 := Lib.hid (B5.out.trans (b6.mono B5.out.size))
      clear b6 B5 M5 N5 HE
      by_cases k0 : k < 0
      · go_wp2_with fail
        go_ret
        exact ⟨rfl, B6.out⟩
      by_cases k1 : (q : Int) < k
      · go_wp2_with fail
        go_ret
        exact ⟨rfl, B6.out⟩
      obtain ⟨m, rfl⟩ := Int.eq_ofNat_of_zero_le (show 0 ≤ k by omega)
      have hmq : m ≤ q := by omega
      obtain ⟨A7, c7, hrun7, r7⟩ := cut_any (P := Try.prog) (w := w6) 22 34 Try.underlying22 ent_info N6.out none (some (.int .i64 m)) 0 m 0 m (Or.inl ⟨rfl, rfl⟩) (Or.inr ⟨rfl, rfl⟩) (Nat.zero_le _) hmq
      have e7 : ((els fs).drop (0 * 7)).take ((m - 0) * 7) = els (fs.take m) := by rw [Nat.zero_mul, List.drop_zero, Nat.sub_zero, els_take]
      rw [e7, Nat.sub_zero] at r7
      rw [Nat.sub_zero] at hrun7
      have R7 := Lib.hid r7
      have HF := Lib.hid (show PLog.front (fs.take m) fs = true from (PLog.front_iff _ _).2 (List.take_prefix _ _))
      clear r7 e7
      go_wp2_with ((with_reducible show wpList _ _ _ ((⟨some 48, Op.slice _ _ _ _ _, _, _, _, _⟩ : Oper) :: _) _ _); (refine wpList_unguard rfl ?_; refine wpList_plain rfl fun K hK => ?_; unfold Oper.wp; rw [run_sliceOp (hrun7 _), Oper.upon_value]; refine hK _ _ ?_))
      refine (Front_c w6 _ _ A7 A4 c7 m c4 q (fs.take m) fs R7.out N6.out).mono ?_
      rw [HF.out]
      rintro x w8 ⟨rfl, b8⟩
      go_wp2_with fail
      go_ret
      exact ⟨rfl, B6.out.trans (b8.mono B6.out.size)⟩
    · have HE := Lib.hid hf
      clear hf
      go_wp2_with fail
      refine (Front_c w5 _ _ A3 A4 c3 p c4 q es fs M5.out N5.out).mono ?_
      rw [HE.out]
      rintro x w6 ⟨rfl, b6⟩
      have N6 := Lib.hid (N5.out.past b6).tight
      have B6 := Lib.hid (B5.out.trans (b6.mono B5.out.size))
      clear b6 B5 M5 N5 HE
      by_cases k0 : k < 0
      · go_wp2_with fail
        go_ret
        exact ⟨rfl, B6.out⟩
      by_cases k1 : (q : Int) < k
      · go_wp2_with fail
        go_ret
        exact ⟨rfl, B6.out⟩
      obtain ⟨m, rfl⟩ := Int.eq_ofNat_of_zero_le (show 0 ≤ k by omega)
      have hmq : m ≤ q := by omega
      obtain ⟨A7, c7, hrun7, r7⟩ := cut_any (P := Try.prog) (w := w6) 22 34 Try.underlying22 ent_info N6.out none (some (.int .i64 m)) 0 m 0 m (Or.inl ⟨rfl, rfl⟩) (Or.inr ⟨rfl, rfl⟩) (Nat.zero_le _) hmq
      have e7 : ((els fs).drop (0 * 7)).take ((m - 0) * 7) = els (fs.take m) := by rw [Nat.zero_mul, List.drop_zero, Nat.sub_zero, els_take]
      rw [e7, Nat.sub_zero] at r7
      rw [Nat.sub_zero] at hrun7
      have R7 := Lib.hid r7
      have HF := Lib.hid (show PLog.front (fs.take m) fs = true from (PLog.front_iff _ _).2 (List.take_prefix _ _))
      clear r7 e7
      go_wp2_with ((with_reducible show wpList _ _ _ ((⟨some 48, Op.slice _ _ _ _ _, _, _, _, _⟩ : Oper) :: _) _ _); (refine wpList_unguard rfl ?_; refine wpList_plain rfl fun K hK => ?_; unfold Oper.wp; rw [run_sliceOp (hrun7 _), Oper.upon_value]; refine hK _ _ ?_))
      refine (Front_c w6 _ _ A7 A4 c7 m c4 q (fs.take m) fs R7.out N6.out).mono ?_
      rw [HF.out]
      rintro x w8 ⟨rfl, b8⟩
      go_wp2_with fail
      go_ret
      exact ⟨rfl, B6.out.trans (b8.mono B6.out.size)⟩
  · have HE := Lib.hid (show PLog.front es fs = false by unfold PLog.front; rw [HP.out, HQ.out, decide_eq_false hle]; rfl)
    have jle : ¬ (p : Int) ≤ (q : Int) := by omega
    have N5 := Lib.hid N4.out
    have M5 := Lib.hid M3.out
    have B5 := Lib.hid B4.out
    clear hle B4 M3 N4
    go_wp2_with fail
    refine (Front_c w4 _ _ A3 A4 c3 p c4 q es fs M5.out N5.out).mono ?_
    rw [HE.out]
    rintro x w6 ⟨rfl, b6⟩
    have N6 := Lib.hid (N5.out.past b6).tight
    have B6 := Lib.hid (B5.out.trans (b6.mono B5.out.size))
    clear b6 B5 M5 N5 HE jle
    by_cases k0 : k < 0
    · go_wp2_with fail
      go_ret
      exact ⟨rfl, B6.out⟩
    by_cases k1 : (q : Int) < k
    · go_wp2_with fail
      go_ret
      exact ⟨rfl, B6.out⟩
    obtain ⟨m, rfl⟩ := Int.eq_ofNat_of_zero_le (show 0 ≤ k by omega)
    have hmq : m ≤ q := by omega
    obtain ⟨A7, c7, hrun7, r7⟩ := cut_any (P := Try.prog) (w := w6) 22 34 Try.underlying22 ent_info N6.out none (some (.int .i64 m)) 0 m 0 m (Or.inl ⟨rfl, rfl⟩) (Or.inr ⟨rfl, rfl⟩) (Nat.zero_le _) hmq
    have e7 : ((els fs).drop (0 * 7)).take ((m - 0) * 7) = els (fs.take m) := by rw [Nat.zero_mul, List.drop_zero, Nat.sub_zero, els_take]
    rw [e7, Nat.sub_zero] at r7
    rw [Nat.sub_zero] at hrun7
    have R7 := Lib.hid r7
    have HF := Lib.hid (show PLog.front (fs.take m) fs = true from (PLog.front_iff _ _).2 (List.take_prefix _ _))
    clear r7 e7
    go_wp2_with ((with_reducible show wpList _ _ _ ((⟨some 48, Op.slice _ _ _ _ _, _, _, _, _⟩ : Oper) :: _) _ _); (refine wpList_unguard rfl ?_; refine wpList_plain rfl fun K hK => ?_; unfold Oper.wp; rw [run_sliceOp (hrun7 _), Oper.upon_value]; refine hK _ _ ?_))
    refine (Front_c w6 _ _ A7 A4 c7 m c4 q (fs.take m) fs R7.out N6.out).mono ?_
    rw [HF.out]
    rintro x w8 ⟨rfl, b8⟩
    go_wp2_with fail
    go_ret
    exact ⟨rfl, B6.out.trans (b8.mono B6.out.size)⟩

set_option maxHeartbeats 8000000 in
set_option maxRecDepth 100000 in
theorem LogPut_w (w : World) (A : Option Addr) (c n : Nat) (z : List Ent) (k a : Int) (R : Rd w w.heap.size A c 7 n (els z)) (ok : ∀ e ∈ z, EntOk e) :
    Calls Try.prog 4 #[.slice A n c, .int .i64 k, .int .i64 a] w fun e w' => e = .returned (.bool true) ∧ Below w.heap.size w w' := by
  have P1 := Lib.hid R
  have O1 := Lib.hid ok
  clear R ok
  go_enter Try.func4, Try.ntmps4
  go_wp2_with fail
  refine (begun_c w).mono ?_
  rintro x w1 ⟨rfl, b1⟩
  have B1 := Lib.hid b1
  clear b1
  go_wp2_with fail
  refine (lEntries_c w1 A c n z 20 (P1.out.past B1.out).tight O1.out (by omega) (by omega)).mono ?_
  rintro x w2 ⟨A2, c2, es, rfl, -, o2, -, b2⟩
  have N2 := Lib.hid (Rd.of_own o2)
  have B2 := Lib.hid (B1.out.trans (b2.mono B1.out.size))
  clear o2 b2 B1 P1 O1
  go_wp2_with fail
  refine (rLog_c w2 _ A2 c2 es.length es N2.out).mono ?_
  have HW0 := Lib.hid (PLog.log_ok es)
  have HWL := Lib.hid (PLog.log_len es)
  generalize PLog.log es = W at *
  rintro x w3 ⟨A3, c3, rfl, o3, b3⟩
  have N3 := Lib.hid (Rd.of_own o3)
  have B3 := Lib.hid (B2.out.trans (b3.mono B2.out.size))
  clear o3 b3 N2 B2
  obtain ⟨m, hm⟩ : ∃ m, W.length = m := ⟨_, rfl⟩
  have HM := Lib.hid hm
  have hm60 : m ≤ 60 := by rw [← hm]; exact HWL.out
  rw [hm] at N3 ⊢
  clear hm
  by_cases k0 : k < 0
  · go_wp2_with fail
    go_ret
    exact ⟨rfl, B3.out⟩
  by_cases k1 : (m : Int) < k
  · go_wp2_with fail
    go_ret
    exact ⟨rfl, B3.out⟩
  by_cases a0 : a < 0
  · go_wp2_with fail
    go_ret
    exact ⟨rfl, B3.out⟩
  obtain ⟨j, rfl⟩ := Int.eq_ofNat_of_zero_le (show 0 ≤ k by omega)
  obtain ⟨t, rfl⟩ := Int.eq_ofNat_of_zero_le (show 0 ≤ a by omega)
  have hjm : j ≤ m := by omega
  obtain ⟨A4, c4, hrun4, r4⟩ := cut_any (P := Try.prog) (w := w3) 22 34 Try.underlying22 ent_info N3.out none (some (.int .i64 j)) 0 j 0 j (Or.inl ⟨rfl, rfl⟩) (Or.inr ⟨rfl, rfl⟩) (Nat.zero_le _) hjm
  have e4 : ((els W).drop (0 * 7)).take ((j - 0) * 7) = els (W.take j) := by rw [Nat.zero_mul, List.drop_zero, Nat.sub_zero, els_take]
  rw [e4, Nat.sub_zero] at r4
  rw [Nat.sub_zero] at hrun4
  have R4 := Lib.hid r4
  have HLJ := Lib.hid (show PLog.log (W.take j) = W.take j from PLog.log_of_ok (PLog.ok_take HW0.out j).1)
  have HTJ := Lib.hid (show (W.take j).length = j by rw [List.length_take, HM.out]; omega)
  clear r4 e4
  go_wp2_with ((with_reducible show wpList _ _ _ ((⟨some 31, Op.slice _ _ _ _ _, _, _, _, _⟩ : Oper) :: _) _ _); (refine wpList_plain rfl fun K hK => ?_; unfold Oper.wp; rw [run_sliceOp (hrun4 _), Oper.upon_value]; refine hK _ _ ?_))
  refine (New_c w3 _ A4 c4 j (W.take j) R4.out).mono ?_
  rw [HLJ.out]
  rintro x w5 ⟨g, F, rfl, l5, f5, b5⟩
  have L5 := Lib.hid l5
  have HF := Lib.hid f5
  have S3 := Lib.hid B3.out.size
  have N5 := Lib.hid (N3.out.past b5)
  have R5 := Lib.hid (R4.out.past b5)
  have B5 := Lib.hid (B3.out.trans (b5.mono B3.out.size))
  clear l5 f5 b5 N3 R4 B3
  by_cases t1 : (m : Int) < (t : Int)
  · go_wp2_with fail
    refine (Put_out w5 g F (W.take j) L5.out t (Or.inr (by rw [HTJ.out]; omega)) none 0 0).mono ?_
    rintro x w6 ⟨rfl, rfl⟩
    go_wp2_with fail
    go_ret
    exact ⟨rfl, B5.out⟩
  have htm : t ≤ m := by omega
  obtain ⟨A6, c6, hrun6, r6⟩ := cut_any (P := Try.prog) (w := w5) 22 34 Try.underlying22 ent_info N5.out (some (.int .i64 t)) none t m t 0 (Or.inr ⟨rfl, rfl⟩) (Or.inl ⟨rfl, rfl⟩) htm (Nat.le_refl _)
  have e6 : ((els W).drop (t * 7)).take ((m - t) * 7) = els (W.drop t) := by
    rw [els_drop, els_take]; congr 1; exact List.take_of_length_le (by rw [List.length_drop, HM.out]; omega)
  rw [e6] at r6
  have R6 := Lib.hid r6
  clear r6 e6
  by_cases tj : t ≤ j
  · have HPP := Lib.hid (show PLog.okPut (W.take j) t (W.drop t) = true ∧ PLog.put (W.take j) t (W.drop t) = W from by
      have q := PLog.put_piece HW0.out (m := j) (k := t) (by rw [HM.out]; exact hjm) tj (W.length - t)
      have e1 : (W.drop t).take (W.length - t) = W.drop t := List.take_of_length_le (by rw [List.length_drop]; omega)
      have e2 : W.take (max j (min W.length (t + (W.length - t)))) = W := List.take_of_length_le (by have := HM.out; omega)
      rw [e1, e2] at q
      exact q)
    have jt : ¬ ((j : Int) < (t : Int)) := by omega
    go_wp2_with ((with_reducible show wpList _ _ _ ((⟨some 45, Op.slice _ _ _ _ _, _, _, _, _⟩ : Oper) :: _) _ _); (refine wpList_plain rfl fun K hK => ?_; unfold Oper.wp; rw [run_sliceOp (hrun6 _), Oper.upon_value]; refine hK _ _ ?_))
    refine (Put_in w5 g F (W.take j) L5.out t (by rw [HTJ.out]; exact tj) _ A6 c6 (m - t) (W.drop t) R6.out (R6.out.apart HF.out)).mono ?_
    rw [HPP.out.1, HPP.out.2]
    rintro x w7 ⟨rfl, ⟨⟨F7, l7, f7⟩, t7⟩⟩
    have L7 := Lib.hid l7
    have N7 := Lib.hid (N5.out.touch t7 (N5.out.apart HF.out))
    have B7 := Lib.hid (B5.out.trans (t7.below (fun q hq => Nat.le_trans S3.out (HF.out q hq)) B5.out.size))
    clear l7 f7 t7 N5 R5 R6 B5 L5
    go_wp2_with fail
    refine (same_c w7 g F7 W L7.out _ A3 c3 m N7.out).mono ?_
    rintro x w8 ⟨rfl, b8⟩
    go_wp2_with fail
    go_ret
    exact ⟨rfl, B7.out.trans (b8.mono B7.out.size)⟩
  · have jt : (j : Int) < (t : Int) := by omega
    go_wp2_with ((with_reducible show wpList _ _ _ ((⟨some 45, Op.slice _ _ _ _ _, _, _, _, _⟩ : Oper) :: _) _ _); (refine wpList_plain rfl fun K hK => ?_; unfold Oper.wp; rw [run_sliceOp (hrun6 _), Oper.upon_value]; refine hK _ _ ?_))
    refine (Put_out w5 g F (W.take j) L5.out t (Or.inr (by rw [HTJ.out]; omega)) A6 c6 (m - t)).mono ?_
    rintro x w6 ⟨rfl, rfl⟩
    obtain ⟨A8, c8, hrun8, r8⟩ := cut_any (P := Try.prog) (w := w5) 22 34 Try.underlying22 ent_info N5.out none (some (.int .i64 j)) 0 j 0 j (Or.inl ⟨rfl, rfl⟩) (Or.inr ⟨rfl, rfl⟩) (Nat.zero_le _) hjm
    have e8 : ((els W).drop (0 * 7)).take ((j - 0) * 7) = els (W.take j) := by rw [Nat.zero_mul, List.drop_zero, Nat.sub_zero, els_take]
    rw [e8, Nat.sub_zero] at r8
    rw [Nat.sub_zero] at hrun8
    have R8 := Lib.hid r8
    clear r8 e8
    go_wp2_with ((with_reducible show wpList _ _ _ ((⟨some 56, Op.slice _ _ _ _ _, _, _, _, _⟩ : Oper) :: _) _ _); (refine wpList_unguard rfl ?_; refine wpList_plain rfl fun K hK => ?_; unfold Oper.wp; rw [run_sliceOp (hrun8 _), Oper.upon_value]; refine hK _ _ ?_))
    refine (same_c w5 g F (W.take j) L5.out _ A8 c8 j R8.out).mono ?_
    rintro x w8 ⟨rfl, b8⟩
    go_wp2_with fail
    go_ret
    exact ⟨rfl, B5.out.trans (b8.mono B5.out.size)⟩
end Go.Proofs.Ytnhdehbpcgeceaa
