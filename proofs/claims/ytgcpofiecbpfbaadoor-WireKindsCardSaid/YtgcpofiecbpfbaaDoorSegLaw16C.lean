/- The walk of WireKinds. -/
import Derived.Test.YtgcpofiecbpfbaaDoorSeg9
import Derived.Test.YtgcpofiecbpfbaaDoorSeg11
namespace Go.Proofs.YtgcpofiecbpfbaaDoor
open Go.RowKit

set_option maxHeartbeats 8000000 in
set_option maxRecDepth 100000 in
theorem WireKinds_w (w : World) (ht : Tab w) (kind fr dst boot : Int) :
    Calls Tryd.prog 8 #[.int .i64 kind, .int .i64 fr, .int .i64 dst, .int .i64 boot] w fun e w' => e = .returned (.bool true) ∧ Below w.heap.size w w' := by
  have HT := Lib.hid ht
  have HE := Lib.hid (show ∀ m : Msg, PMsg.may m = false → PMsg.enc m = [] from fun m h => PMsg.enc_no h)
  clear ht
  go_enter Tryd.func8, Tryd.ntmps8
  go_wp2_with fail
  refine (begunM_c w HT.out).mono ?_
  rintro e w1 ⟨rfl, b1⟩
  have b2 := (Below.refl w1.heap.size w1).alloc (Nat.le_refl _) (.cells #[.int .i64 kind, .int .i64 fr, .int .i64 dst, .int .i64 boot, .int .i64 0, .int .i64 0, .int .i64 0, .int .i64 0, .slice none 0 0, .int .i64 0, .int .i64 0, .int .i64 0, .bool false] 24)
  have BL2 := Lib.hid (b1.trans (b2.mono b1.size))
  obtain ⟨m, HM⟩ : ∃ m : Msg, Hid (m = ⟨kind, fr, dst, boot, 0, 0, 0, 0, [], 0, 0, 0, false⟩) := ⟨_, Lib.hid rfl⟩
  have HV := Lib.hid (show ∀ A c, mv m A c = .agg #[.int .i64 kind, .int .i64 fr, .int .i64 dst, .int .i64 boot, .int .i64 0, .int .i64 0, .int .i64 0, .int .i64 0, .slice A 0 c, .int .i64 0, .int .i64 0, .int .i64 0, .bool false] from fun A c => by rw [HM.out]; rfl)
  have HE0 := Lib.hid (show m.es = [] by rw [HM.out])
  have HMM := Lib.hid (show -9223372036854775808 ≤ m.mem ∧ m.mem ≤ 9223372036854775807 by
    rw [HM.out]
    exact ⟨by show (-9223372036854775808 : Int) ≤ 0; decide, by show (0 : Int) ≤ _; decide⟩)
  have K2 := Lib.hid (show Blk (w1.alloc (.cells #[.int .i64 kind, .int .i64 fr, .int .i64 dst, .int .i64 boot, .int .i64 0, .int .i64 0, .int .i64 0, .int .i64 0, .slice none 0 0, .int .i64 0, .int .i64 0, .int .i64 0, .bool false] 24)) w1.heap.size 24 (mcs m none 0) by rw [HM.out]; exact Blk.new w1 #[.int .i64 kind, .int .i64 fr, .int .i64 dst, .int .i64 boot, .int .i64 0, .int .i64 0, .int .i64 0, .int .i64 0, .slice none 0 0, .int .i64 0, .int .i64 0, .int .i64 0, .bool false] 24)
  clear b1 b2
  go_wp2_with fail
  generalize w1.alloc (.cells #[.int .i64 kind, .int .i64 fr, .int .i64 dst, .int .i64 boot, .int .i64 0, .int .i64 0, .int .i64 0, .int .i64 0, .slice none 0 0, .int .i64 0, .int .i64 0, .int .i64 0, .bool false] 24) = w2 at *
  generalize w1.heap.size = g1 at *
  have KR := Lib.hid (show ∀ (v : World) (B c : Nat), Rd v B none 0 7 m.es.length (els m.es) by intro v B c; rw [HE0.out]; exact Rd.nil _ _ _)
  have e1 := wEncode_c w2 m none 0 (KR.out _ _ 0) HMM.out (HT.out.past BL2.out)
  rw [HV.out] at e1
  refine e1.mono ?_
  clear e1
  rintro x w3 ⟨A2, c2, rfl, hown, b3⟩
  have BL3 := Lib.hid (BL2.out.trans (b3.mono BL2.out.size))
  have K3 := Lib.hid (K2.out.past b3)
  have R3 := Lib.hid (Rd.of_own hown)
  have KC := Lib.hid (show mcs m none 0 = [.int .i64 kind, .int .i64 fr, .int .i64 dst, .int .i64 boot, .int .i64 0, .int .i64 0, .int .i64 0, .int .i64 0, .slice none 0 0, .int .i64 0, .int .i64 0, .int .i64 0, .bool false] by rw [HM.out]; rfl)
  have HL := Lib.hid (PMsg.enc_len m)
  have HB := Lib.hid (PMsg.enc_byte m)
  clear b3 hown BL2 K2
  have K3' : Hid (Blk w3 g1 24 [.int .i64 kind, .int .i64 fr, .int .i64 dst, .int .i64 boot, .int .i64 0, .int .i64 0, .int .i64 0, .int .i64 0, .slice none 0 0, .int .i64 0, .int .i64 0, .int .i64 0, .bool false]) := Lib.hid (by rw [← KC.out]; exact K3.out)
  go_wp2_with ((with_reducible show wpList _ _ _ ((⟨some 24, Op.load _ _, _, _, _, _⟩ : Oper) :: _) _ _); go_must (refine wpList_load_row rfl 24 (.tmp 10) rfl g1 rfl 24 #[.int .i64 kind, .int .i64 fr, .int .i64 dst, .int .i64 boot, .int .i64 0, .int .i64 0, .int .i64 0, .int .i64 0, .slice none 0 0, .int .i64 0, .int .i64 0, .int .i64 0, .bool false] (0, 0) _ K3'.out Tryd.underlying24 rfl (by kernel_rfl) ?_))
  have e1 := rMayM_c w3 m none 0 (KR.out _ _ 0)
  rw [HV.out] at e1
  refine e1.mono ?_
  clear e1
  cases hy : PMsg.may m
  · have HN := Lib.hid (PMsg.enc_no hy)
    rintro x w4 ⟨rfl, b4⟩
    have BL4 := Lib.hid (BL3.out.trans (b4.mono BL3.out.size))
    have hl0 : ((PMsg.enc m).length : Int) = 0 := by rw [HN.out]; rfl
    clear b4 hy
    go_wp2_with fail
    go_ret
    refine ⟨?_, BL4.out⟩
    show Ending.returned (.bool _) = _
    simp
  · have HD := Lib.hid (PMsg.dec_enc hy)
    rintro x w4 ⟨rfl, b4⟩
    have BL4 := Lib.hid (BL3.out.trans (b4.mono BL3.out.size))
    have K4 := Lib.hid (show Blk w4 g1 24 [.int .i64 kind, .int .i64 fr, .int .i64 dst, .int .i64 boot, .int .i64 0, .int .i64 0, .int .i64 0, .int .i64 0, .slice none 0 0, .int .i64 0, .int .i64 0, .int .i64 0, .bool false] from K3'.out.past b4)
    have R4 := Lib.hid (R3.out.past b4)
    clear b4 hy K3 K3' BL3 R3
    go_wp2_with fail
    have e1 := wDecode_some R4.out HB.out (HT.out.past BL4.out) (by have := HL.out; omega) HD.out
    refine (show Calls Tryd.prog 17 #[.slice A2 (PMsg.enc m).length c2] w4 (fun x w' => ∃ (A' : Option Addr) (c' : Nat), x = .returned (.tuple #[.agg #[.int .i64 kind, .int .i64 fr, .int .i64 dst, .int .i64 boot, .int .i64 0, .int .i64 0, .int .i64 0, .int .i64 0, .slice A' 0 c', .int .i64 0, .int .i64 0, .int .i64 0, .bool false], .int .i64 0]) ∧ Rd w' w'.heap.size A' c' 7 m.es.length (els m.es) ∧ Below w4.heap.size w4 w') by
      have hv : ∀ (A' : Option Addr) (c' : Nat), mv m A' c' = .agg #[.int .i64 kind, .int .i64 fr, .int .i64 dst, .int .i64 boot, .int .i64 0, .int .i64 0, .int .i64 0, .int .i64 0, .slice A' 0 c', .int .i64 0, .int .i64 0, .int .i64 0, .bool false] := fun A' c' => HV.out A' c'
      refine e1.mono fun x w' ⟨A', c', hx, hr, hb⟩ => ⟨A', c', ?_, hr, hb⟩
      rw [hx, ← hv A' c']; rfl).mono ?_
    clear e1
    rintro x w5 ⟨A3, c3, rfl, hr5, b5⟩
    have b6 := (Below.refl w5.heap.size w5).alloc (Nat.le_refl _) (.cells #[.int .i64 kind, .int .i64 fr, .int .i64 dst, .int .i64 boot, .int .i64 0, .int .i64 0, .int .i64 0, .int .i64 0, .slice A3 0 c3, .int .i64 0, .int .i64 0, .int .i64 0, .bool false] 24)
    have BL6 := Lib.hid ((BL4.out.trans (b5.mono BL4.out.size)).trans (b6.mono (Nat.le_trans BL4.out.size b5.size)))
    have K6 := Lib.hid ((K4.out.past b5).past b6)
    have X6 := Lib.hid (Blk.new w5 #[.int .i64 kind, .int .i64 fr, .int .i64 dst, .int .i64 boot, .int .i64 0, .int .i64 0, .int .i64 0, .int .i64 0, .slice A3 0 c3, .int .i64 0, .int .i64 0, .int .i64 0, .bool false] 24)
    have R6 := Lib.hid ((hr5.past b6).tight)
    clear b5 b6 hr5 K4 BL4
    go_wp2_with (first | ((with_reducible show wpList _ _ _ ((⟨some 38, Op.load _ _, _, _, _, _⟩ : Oper) :: _) _ _); go_must (refine wpList_unguard rfl ?_; refine wpList_load_row rfl 24 (.tmp 12) rfl w5.heap.size rfl 24 #[.int .i64 kind, .int .i64 fr, .int .i64 dst, .int .i64 boot, .int .i64 0, .int .i64 0, .int .i64 0, .int .i64 0, .slice A3 0 c3, .int .i64 0, .int .i64 0, .int .i64 0, .bool false] (0, 0) _ X6.out Tryd.underlying24 rfl (by kernel_rfl) ?_)) | ((with_reducible show wpList _ _ _ ((⟨some 39, Op.load _ _, _, _, _, _⟩ : Oper) :: _) _ _); go_must (refine wpList_unguard rfl ?_; refine wpList_load_row rfl 24 (.tmp 10) rfl g1 rfl 24 #[.int .i64 kind, .int .i64 fr, .int .i64 dst, .int .i64 boot, .int .i64 0, .int .i64 0, .int .i64 0, .int .i64 0, .slice none 0 0, .int .i64 0, .int .i64 0, .int .i64 0, .bool false] (0, 0) _ K6.out Tryd.underlying24 rfl (by kernel_rfl) ?_)))
    generalize w5.alloc (.cells #[.int .i64 kind, .int .i64 fr, .int .i64 dst, .int .i64 boot, .int .i64 0, .int .i64 0, .int .i64 0, .int .i64 0, .slice A3 0 c3, .int .i64 0, .int .i64 0, .int .i64 0, .bool false] 24) = w6 at *
    have e1 := rEqM_c w6 m m A3 none c3 0 R6.out (KR.out _ _ 0)
    rw [HV.out, HV.out, PMsg.eqM_refl] at e1
    refine e1.mono ?_
    clear e1
    rintro x w7 ⟨rfl, b7⟩
    have BL7 := Lib.hid (BL6.out.trans (b7.mono BL6.out.size))
    clear b7
    go_wp2_with fail
    go_ret
    exact ⟨rfl, BL7.out⟩
end Go.Proofs.YtgcpofiecbpfbaaDoor

