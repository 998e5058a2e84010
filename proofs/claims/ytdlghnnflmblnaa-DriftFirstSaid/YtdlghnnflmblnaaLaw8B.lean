/- The walk of DriftFirst. -/
import Derived.Test.YtdlghnnflmblnaaDriftE
import Derived.Test.YtdlghnnflmblnaaKit2
namespace Go.Proofs.Ytdlghnnflmblnaa
open Go.RowKit
open PDrift (pr)

set_option maxHeartbeats 1000000 in
set_option maxRecDepth 100000 in
theorem DriftFirst_w (w : World) (A : Option Addr) (c n : Nat) (l : List (Int × Int)) (d e k : Int) (h : Rd w w.heap.size A c 2 n (tcs l)) :
    Calls Try.prog 5 #[.slice A n c, .int .i64 d, .int .i64 e, .int .i64 k] w fun e w' => e = .returned (.bool true) ∧ Below w.heap.size w w' := by
  have hln := h.plen
  have hcap := h.cap
  have hle := h.le
  unfold maxLen at hcap
  have R0 := Lib.hid h
  clear h
  by_cases hn : n ≤ 15
  · go_enter Try.func5, Try.ntmps5
    go_wp2_with fail
    refine (begun_c w).mono ?_
    rintro e' w1 ⟨rfl, b1⟩
    have R1 := Lib.hid ((R0.out.past b1).tight)
    have B1 := Lib.hid b1
    clear b1 R0
    rcases (by omega : d < 0 ∨ (0 ≤ d ∧ e < d) ∨ (0 ≤ d ∧ d ≤ e ∧ 500000 < e) ∨ (0 ≤ d ∧ d ≤ e ∧ e ≤ 500000 ∧ k < 0) ∨ (0 ≤ d ∧ d ≤ e ∧ e ≤ 500000 ∧ 0 ≤ k ∧ n < k) ∨ (0 ≤ d ∧ d ≤ e ∧ e ≤ 500000 ∧ 0 ≤ k ∧ k ≤ n)) with h | ⟨h1, h2⟩ | ⟨h1, h2, h3⟩ | ⟨h1, h2, h3, h4⟩ | ⟨h1, h2, h3, h4, h5⟩ | ⟨h1, h2, h3, h4, h5⟩
    iterate 5
      · go_wp2_with fail
        go_ret
        exact ⟨rfl, B1.out⟩
    obtain ⟨m, rfl⟩ := Int.eq_ofNat_of_zero_le h4
    by_cases hf : PDrift.fault l d = -1
    · have HF := Lib.hid hf
      have HF1 := Lib.hid (PDrift.fault_more hf h2 h3)
      have HF2 := Lib.hid (PDrift.fault_take hf m)
      have HF3 := Lib.hid (PDrift.fault_drop hf m)
      clear hf
      go_wp2_with fail
      refine (May_c w1 _ _ _ l d R1.out).mono ?_
      rw [decide_eq_true HF.out]
      rintro e' w2 ⟨rfl, b2⟩
      have R2 := Lib.hid ((R1.out.past b2).tight)
      have B2 := Lib.hid (B1.out.trans (b2.mono B1.out.size))
      clear b2
      go_wp2_with fail
      refine (May_c w2 _ _ _ l e R2.out).mono ?_
      rw [decide_eq_true HF1.out]
      rintro e' w3 ⟨rfl, b3⟩
      have R3 := Lib.hid ((R2.out.past b3).tight)
      have B3 := Lib.hid (B2.out.trans (b3.mono B2.out.size))
      clear b3 R2 B2
      go_wp2_with ((with_reducible show wpList _ _ _ ((⟨some 51, Op.slice 22 _ _ _ _, _, _, _, _⟩ : Oper) :: _) _ _);
                   go_must (refine wpList_unguard rfl (wpList_cutI rfl 22 (.tmp 49) _ _ rfl 31 _ 2 16 Try.underlying22 dr_info _ _ _ _ _ rfl R3.out 0 m 0 m (.inl ⟨rfl, rfl⟩) (.inr ⟨rfl, rfl⟩) (by omega) (by omega) ?_)))
      intro A4 c4 r4
      have R4 := Lib.hid (show Rd w3 w3.heap.size A4 c4 2 m (tcs ((l).take m)) by rw [← tcs_take _ _ (by (try simp only [List.length_take]); omega)]; simpa using r4)
      clear r4
      go_wp2_with fail
      refine (May_c w3 _ _ _ ((l).take m) d R4.out).mono ?_
      rw [decide_eq_true HF2.out]
      rintro e' w4 ⟨rfl, b4⟩
      have R5 := Lib.hid ((R3.out.past b4).tight)
      have B5 := Lib.hid (B3.out.trans (b4.mono B3.out.size))
      clear b4 R3 B3 R4
      go_wp2_with ((with_reducible show wpList _ _ _ ((⟨some 58, Op.slice 22 _ _ _ _, _, _, _, _⟩ : Oper) :: _) _ _);
                   go_must (refine wpList_unguard rfl (wpList_cutI rfl 22 (.tmp 56) _ _ rfl 31 _ 2 16 Try.underlying22 dr_info _ _ _ _ _ rfl R5.out m n m 0 (.inr ⟨rfl, rfl⟩) (.inl ⟨rfl, rfl⟩) (by omega) (by omega) ?_)))
      intro A6 c6 r6
      have R6 := Lib.hid (show Rd w4 w4.heap.size A6 c6 2 (n - m) (tcs ((l).drop m)) by rw [← tcs_drop _ _ (by (try simp only [List.length_take]); omega)]; rw [List.take_of_length_le (by rw [List.length_drop, tcs_len]; (try simp only [List.length_take]); omega)] at r6; exact r6)
      clear r6 R5
      go_wp2_with fail
      refine (May_c w4 _ _ _ ((l).drop m) d R6.out).mono ?_
      rw [decide_eq_true HF3.out]
      rintro e' w5 ⟨rfl, b5⟩
      have B6 := Lib.hid (B5.out.trans (b5.mono B5.out.size))
      go_wp2_with fail
      go_ret
      exact ⟨rfl, B6.out⟩
    · have HF := Lib.hid hf
      clear hf
      go_wp2_with fail
      refine (May_c w1 _ _ _ l d R1.out).mono ?_
      rw [decide_eq_false HF.out]
      rintro e' w2 ⟨rfl, b2⟩
      have B2 := Lib.hid (B1.out.trans (b2.mono B1.out.size))
      clear b2
      go_wp2_with fail
      go_ret
      exact ⟨rfl, B2.out⟩
  · go_enter Try.func5, Try.ntmps5
    go_wp2_with fail
    refine (begun_c w).mono ?_
    rintro e' w1 ⟨rfl, b1⟩
    have R1 := Lib.hid ((R0.out.past b1).tight)
    have B1 := Lib.hid b1
    clear b1 R0
    go_wp2_with ((with_reducible show wpList _ _ _ ((⟨some 17, Op.slice 22 _ _ _ _, _, _, _, _⟩ : Oper) :: _) _ _);
                 go_must (refine wpList_cutI rfl 22 (.tmp 16) _ _ rfl 31 _ 2 16 Try.underlying22 dr_info _ A c n _ rfl R1.out 0 15 0 15 (.inl ⟨rfl, rfl⟩) (.inr ⟨rfl, rfl⟩) (by omega) (by omega) ?_))
    intro A0 c0 h1
    have RC := Lib.hid (show Rd w1 w1.heap.size A0 c0 2 15 (tcs (l.take 15)) by rw [← tcs_take _ _ (by omega)]; simpa using h1)
    have BC := B1
    clear h1 R1 B1
    rcases (by omega : d < 0 ∨ (0 ≤ d ∧ e < d) ∨ (0 ≤ d ∧ d ≤ e ∧ 500000 < e) ∨ (0 ≤ d ∧ d ≤ e ∧ e ≤ 500000 ∧ k < 0) ∨ (0 ≤ d ∧ d ≤ e ∧ e ≤ 500000 ∧ 0 ≤ k ∧ 15 < k) ∨ (0 ≤ d ∧ d ≤ e ∧ e ≤ 500000 ∧ 0 ≤ k ∧ k ≤ 15)) with h | ⟨h1, h2⟩ | ⟨h1, h2, h3⟩ | ⟨h1, h2, h3, h4⟩ | ⟨h1, h2, h3, h4, h5⟩ | ⟨h1, h2, h3, h4, h5⟩
    iterate 5
      · go_wp2_with fail
        go_ret
        exact ⟨rfl, BC.out⟩
    obtain ⟨m, rfl⟩ := Int.eq_ofNat_of_zero_le h4
    by_cases hf : PDrift.fault (l.take 15) d = -1
    · have HF := Lib.hid hf
      have HF1 := Lib.hid (PDrift.fault_more hf h2 h3)
      have HF2 := Lib.hid (PDrift.fault_take hf m)
      have HF3 := Lib.hid (PDrift.fault_drop hf m)
      clear hf
      go_wp2_with fail
      refine (May_c w1 _ _ _ (l.take 15) d RC.out).mono ?_
      rw [decide_eq_true HF.out]
      rintro e' w2 ⟨rfl, b2⟩
      have R2 := Lib.hid ((RC.out.past b2).tight)
      have B2 := Lib.hid (BC.out.trans (b2.mono BC.out.size))
      clear b2
      go_wp2_with fail
      refine (May_c w2 _ _ _ (l.take 15) e R2.out).mono ?_
      rw [decide_eq_true HF1.out]
      rintro e' w3 ⟨rfl, b3⟩
      have R3 := Lib.hid ((R2.out.past b3).tight)
      have B3 := Lib.hid (B2.out.trans (b3.mono B2.out.size))
      clear b3 R2 B2
      go_wp2_with ((with_reducible show wpList _ _ _ ((⟨some 51, Op.slice 22 _ _ _ _, _, _, _, _⟩ : Oper) :: _) _ _);
                   go_must (refine wpList_unguard rfl (wpList_cutI rfl 22 (.tmp 49) _ _ rfl 31 _ 2 16 Try.underlying22 dr_info _ _ _ _ _ rfl R3.out 0 m 0 m (.inl ⟨rfl, rfl⟩) (.inr ⟨rfl, rfl⟩) (by omega) (by omega) ?_)))
      intro A4 c4 r4
      have R4 := Lib.hid (show Rd w3 w3.heap.size A4 c4 2 m (tcs (((l.take 15)).take m)) by rw [← tcs_take _ _ (by (try simp only [List.length_take]); omega)]; simpa using r4)
      clear r4
      go_wp2_with fail
      refine (May_c w3 _ _ _ (((l.take 15)).take m) d R4.out).mono ?_
      rw [decide_eq_true HF2.out]
      rintro e' w4 ⟨rfl, b4⟩
      have R5 := Lib.hid ((R3.out.past b4).tight)
      have B5 := Lib.hid (B3.out.trans (b4.mono B3.out.size))
      clear b4 R3 B3 R4
      go_wp2_with ((with_reducible show wpList _ _ _ ((⟨some 58, Op.slice 22 _ _ _ _, _, _, _, _⟩ : Oper) :: _) _ _);
                   go_must (refine wpList_unguard rfl (wpList_cutI rfl 22 (.tmp 56) _ _ rfl 31 _ 2 16 Try.underlying22 dr_info _ _ _ _ _ rfl R5.out m 15 m 0 (.inr ⟨rfl, rfl⟩) (.inl ⟨rfl, rfl⟩) (by omega) (by omega) ?_)))
      intro A6 c6 r6
      have R6 := Lib.hid (show Rd w4 w4.heap.size A6 c6 2 (15 - m) (tcs ((l.take 15).drop m)) by rw [← tcs_drop _ _ (by (try simp only [List.length_take]); omega)]; rw [List.take_of_length_le (by rw [List.length_drop, tcs_len]; (try simp only [List.length_take]); omega)] at r6; exact r6)
      clear r6 R5
      go_wp2_with fail
      refine (May_c w4 _ _ _ (((l.take 15)).drop m) d R6.out).mono ?_
      rw [decide_eq_true HF3.out]
      rintro e' w5 ⟨rfl, b5⟩
      have B6 := Lib.hid (B5.out.trans (b5.mono B5.out.size))
      go_wp2_with fail
      go_ret
      exact ⟨rfl, B6.out⟩
    · have HF := Lib.hid hf
      clear hf
      go_wp2_with fail
      refine (May_c w1 _ _ _ (l.take 15) d RC.out).mono ?_
      rw [decide_eq_false HF.out]
      rintro e' w2 ⟨rfl, b2⟩
      have B2 := Lib.hid (BC.out.trans (b2.mono BC.out.size))
      clear b2
      go_wp2_with fail
      go_ret
      exact ⟨rfl, B2.out⟩
end Go.Proofs.Ytdlghnnflmblnaa
