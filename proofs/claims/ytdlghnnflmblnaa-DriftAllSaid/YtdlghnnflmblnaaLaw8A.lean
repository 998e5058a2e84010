/- The walk of DriftAll. -/
import Derived.Test.YtdlghnnflmblnaaDriftE
import Derived.Test.YtdlghnnflmblnaaKit2
namespace Go.Proofs.Ytdlghnnflmblnaa
open Go.RowKit
open PDrift (pr)

set_option maxHeartbeats 1000000 in
set_option maxRecDepth 100000 in
theorem DriftAll_w (w : World) (A : Option Addr) (c n : Nat) (l : List (Int × Int)) (d : Int) (h : Rd w w.heap.size A c 2 n (tcs l)) :
    Calls Try.prog 3 #[.slice A n c, .int .i64 d] w fun e w' => e = .returned (.bool true) ∧ Below w.heap.size w w' := by
  have hln := h.plen
  have hcap := h.cap
  have hle := h.le
  unfold maxLen at hcap
  have R0 := Lib.hid h
  clear h
  have HE := Lib.hid (fun m : List (Int × Int) => show (decide (PDrift.fault m d = -1) == (PDrift.fault m d == -1)) = true by by_cases h : PDrift.fault m d = -1 <;> simp [h])
  by_cases hn : n ≤ 20
  · go_enter Try.func3, Try.ntmps3
    go_wp2_with fail
    refine (begun_c w).mono ?_
    rintro e w1 ⟨rfl, b1⟩
    have R1 := Lib.hid ((R0.out.past b1).tight)
    have B1 := Lib.hid b1
    clear b1 R0
    go_wp2_with fail
    refine (of_c w1 _ _ _ l R1.out (by omega)).mono ?_
    rintro e w2 ⟨A2, c2, rfl, r2, b2⟩
    have R2 := Lib.hid ((R1.out.past b2).tight)
    have B2 := Lib.hid (B1.out.trans (b2.mono B1.out.size))
    have Q2 := Lib.hid r2
    clear r2 b2
    go_wp2_with fail
    refine (rFault_c w2 _ _ _ l d Q2.out).mono ?_
    rintro e w3 ⟨rfl, b3⟩
    have R3 := Lib.hid ((R2.out.past b3).tight)
    have B3 := Lib.hid (B2.out.trans (b3.mono B2.out.size))
    clear b3 R2 B2 Q2
    go_wp2_with fail
    refine (Fault_c w3 _ _ _ l d R3.out).mono ?_
    rintro e w4 ⟨rfl, b4⟩
    have R4 := Lib.hid ((R3.out.past b4).tight)
    have B4 := Lib.hid (B3.out.trans (b4.mono B3.out.size))
    clear b4 R3 B3
    go_wp2_with fail
    refine (May_c w4 _ _ _ l d R4.out).mono ?_
    rintro e w5 ⟨rfl, b5⟩
    have B5 := Lib.hid (B4.out.trans (b5.mono B4.out.size))
    clear b5 R4 B4
    go_wp2_with fail
    go_ret
    exact ⟨congrArg (fun b => Ending.returned (Value.bool b)) (HE.out l), B5.out⟩
  · go_enter Try.func3, Try.ntmps3
    go_wp2_with fail
    refine (begun_c w).mono ?_
    rintro e w1 ⟨rfl, b1⟩
    have R1 := Lib.hid ((R0.out.past b1).tight)
    have B1 := Lib.hid b1
    clear b1 R0
    go_wp2_with ((with_reducible show wpList _ _ _ ((⟨some 14, Op.slice 22 _ _ _ _, _, _, _, _⟩ : Oper) :: _) _ _);
                 go_must (refine wpList_cutI rfl 22 (.tmp 13) _ _ rfl 31 _ 2 16 Try.underlying22 dr_info _ A c n _ rfl R1.out 0 20 0 20 (.inl ⟨rfl, rfl⟩) (.inr ⟨rfl, rfl⟩) (by omega) (by omega) ?_))
    intro A0 c0 h1
    have RC := Lib.hid (show Rd w1 w1.heap.size A0 c0 2 20 (tcs (l.take 20)) by rw [← tcs_take _ _ (by omega)]; simpa using h1)
    have BC := B1
    clear h1 R1 B1
    go_wp2_with fail
    refine (of_c w1 _ _ _ (l.take 20) RC.out (by omega)).mono ?_
    rintro e w2 ⟨A2, c2, rfl, r2, b2⟩
    have R2 := Lib.hid ((RC.out.past b2).tight)
    have B2 := Lib.hid (BC.out.trans (b2.mono BC.out.size))
    have Q2 := Lib.hid r2
    clear r2 b2
    go_wp2_with fail
    refine (rFault_c w2 _ _ _ (l.take 20) d Q2.out).mono ?_
    rintro e w3 ⟨rfl, b3⟩
    have R3 := Lib.hid ((R2.out.past b3).tight)
    have B3 := Lib.hid (B2.out.trans (b3.mono B2.out.size))
    clear b3 R2 B2 Q2
    go_wp2_with fail
    refine (Fault_c w3 _ _ _ (l.take 20) d R3.out).mono ?_
    rintro e w4 ⟨rfl, b4⟩
    have R4 := Lib.hid ((R3.out.past b4).tight)
    have B4 := Lib.hid (B3.out.trans (b4.mono B3.out.size))
    clear b4 R3 B3
    go_wp2_with fail
    refine (May_c w4 _ _ _ (l.take 20) d R4.out).mono ?_
    rintro e w5 ⟨rfl, b5⟩
    have B5 := Lib.hid (B4.out.trans (b5.mono B4.out.size))
    clear b5 R4 B4
    go_wp2_with fail
    go_ret
    exact ⟨congrArg (fun b => Ending.returned (Value.bool b)) (HE.out (l.take 20)), B5.out⟩
end Go.Proofs.Ytdlghnnflmblnaa
