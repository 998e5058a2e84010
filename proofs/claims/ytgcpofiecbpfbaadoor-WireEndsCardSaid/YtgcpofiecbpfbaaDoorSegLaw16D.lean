/- The walk of WireEnds. -/
import Derived.Test.YtgcpofiecbpfbaaDoorSeg9
namespace Go.Proofs.YtgcpofiecbpfbaaDoor
open Go.RowKit

/-- So many entries, numbered. -/
def nEs (n : Nat) : List Ent := (List.range n).map fun (k : Nat) => (⟨1, 1, (k : Int) + 1, 0, 0, 0, ⟨#[]⟩⟩ : Ent)
theorem nEs_length (n : Nat) : (nEs n).length = n := by simp [nEs]
theorem nEs_succ (n : Nat) : nEs (n + 1) = nEs n ++ [⟨1, 1, (n : Int) + 1, 0, 0, 0, ⟨#[]⟩⟩] := by simp [nEs, List.range_succ]
def eM (kind fr dst boot view num mem pos com : Int) (es : List Ent) : Msg := ⟨kind, fr, dst, boot, view, 0, mem, pos, es, com, num, 0, false⟩

set_option maxHeartbeats 8000000 in
set_option maxRecDepth 100000 in
theorem WireEnds_w (w : World) (ht : Tab w) (kind fr dst boot view num mem pos com n : Int) (hm : -9223372036854775808 ≤ mem ∧ mem ≤ 9223372036854775807) :
    Calls Tryd.prog 7 #[.int .i64 kind, .int .i64 fr, .int .i64 dst, .int .i64 boot, .int .i64 view, .int .i64 num, .int .i64 mem, .int .i64 pos, .int .i64 com, .int .i64 n] w fun e w' => e = .returned (.bool true) ∧ Below w.heap.size w w' := by
  have HT := Lib.hid ht
  have HMM := Lib.hid hm
  clear ht hm
  rcases Int.lt_or_le n 0 with c1 | c1
  · go_enter Tryd.func7, Tryd.ntmps7
    go_wp2_with fail
    refine (begunM_c w HT.out).mono ?_
    rintro e w1 ⟨rfl, b1⟩
    go_wp2_with fail
    go_ret
    exact ⟨rfl, b1⟩
  rcases Int.lt_or_le 65 n with c2 | c2
  · go_enter Tryd.func7, Tryd.ntmps7
    go_wp2_with fail
    refine (begunM_c w HT.out).mono ?_
    rintro e w1 ⟨rfl, b1⟩
    go_wp2_with fail
    go_ret
    exact ⟨rfl, b1⟩
  obtain ⟨n, rfl⟩ := Int.eq_ofNat_of_zero_le c1
  have hn : n ≤ 65 := by omega
  clear c1
  go_enter Tryd.func7, Tryd.ntmps7
  go_wp2_with fail
  refine (begunM_c w HT.out).mono ?_
  rintro e w1 ⟨rfl, b1⟩
  have b2 := (Below.refl w1.heap.size w1).alloc (Nat.le_refl _) (.cells #[.int .i64 kind, .int .i64 fr, .int .i64 dst, .int .i64 boot, .int .i64 view, .int .i64 0, .int .i64 mem, .int .i64 pos, .slice none 0 0, .int .i64 com, .int .i64 num, .int .i64 0, .bool false] 24)
  have BL2 := Lib.hid (b1.trans (b2.mono b1.size))
  have K2 := Lib.hid (show Blk (w1.alloc (.cells #[.int .i64 kind, .int .i64 fr, .int .i64 dst, .int .i64 boot, .int .i64 view, .int .i64 0, .int .i64 mem, .int .i64 pos, .slice none 0 0, .int .i64 com, .int .i64 num, .int .i64 0, .bool false] 24)) w1.heap.size 24 (mcs (eM kind fr dst boot view num mem pos com (nEs 0)) none 0) from Blk.new w1 #[.int .i64 kind, .int .i64 fr, .int .i64 dst, .int .i64 boot, .int .i64 view, .int .i64 0, .int .i64 mem, .int .i64 pos, .slice none 0 0, .int .i64 com, .int .i64 num, .int .i64 0, .bool false] 24)
  have HG := Lib.hid (show w.heap.size ≤ w1.heap.size from b1.size)
  clear b1 b2
  go_wp2_with fail
  generalize w1.alloc (.cells #[.int .i64 kind, .int .i64 fr, .int .i64 dst, .int .i64 boot, .int .i64 view, .int .i64 0, .int .i64 mem, .int .i64 pos, .slice none 0 0, .int .i64 com, .int .i64 num, .int .i64 0, .bool false] 24) = w2 at *
  generalize w1.heap.size = g1 at *
  go_loopw [23] (fun s23 wr => ∃ (i c : Nat) (A : Option Addr), i ≤ n ∧ s23 = .int .i64 i ∧ Hid (Blk wr g1 24 (mcs (eM kind fr dst boot view num mem pos com (nEs i)) A c)) ∧
      Hid (wr.ownsRow w.heap.size 38 7 (.slice A i c) i (els (nEs i))) ∧ Hid (Below w.heap.size w wr)) (fun s23 _ => n - (intOf s23).toNat)
  case atStart => exact ⟨0, 0, none, by omega, rfl, K2, Lib.hid (World.ownsRow_nil _ _ _ _), BL2⟩
  case round =>
    clear BL2 K2
    obtain ⟨i, c, A, hi, rfl, K, O, BL⟩ := hrel
    by_cases hlt : i < n
    · have k8 : wr.cell? ⟨g1, 8, none⟩ = some (.slice A i c) := by
        have := K.out.cell (i := 8) rfl
        rw [this]
        show some (Value.slice A (nEs i).length c) = _
        rw [nEs_length]
      go_wp2_with (at_builtin; go_must (refine wpList_pushes rfl (.tmp 50) (.tmp 54) _ rfl w.heap.size 38 (ev zeroE) 7 64 1 Tryd.underlying22 ent_info rfl (by omega) rfl (by unfold maxLen; omega) A c i (els (nEs i)) rfl O.out rfl ?h1 ?h2 ?h3 ?h4 ?_))
      case h1 => exact ⟨rfl, rfl, rfl, rfl⟩
      case h2 => unfold maxLen; omega
      case h3 => omega
      case h4 => exact BL.out.size
      intro A2 c2 w2 hown2 hg2 hb2
      have K4 := Lib.hid (K.out.grown_own O.out hg2 (by decide))
      have BL4 := Lib.hid (BL.out.trans hb2)
      have O4 := Lib.hid (show w2.ownsRow w.heap.size 38 7 (.slice A2 (i + 1) c2) (i + 1) (els (nEs (i + 1))) by rw [nEs_succ, els_append]; exact hown2)
      clear hown2 hg2 hb2 K O BL k8
      have k8 := K4.out.cell (i := 8) rfl
      have f8 := K4.out.free 8
      have G5 := grown_set w2 g1 8 (.slice A2 (i + 1) c2)
      have K5 := Lib.hid (show Blk (w2.setCell ⟨g1, 8, none⟩ (.slice A2 (i + 1) c2)) g1 24 (mcs (eM kind fr dst boot view num mem pos com (nEs (i + 1))) A2 c2) by
        have := K4.out.set 8 (.slice A2 (i + 1) c2)
        show Blk _ _ _ [.int .i64 kind, .int .i64 fr, .int .i64 dst, .int .i64 boot, .int .i64 view, .int .i64 0, .int .i64 mem, .int .i64 pos, .slice A2 (nEs (i + 1)).length c2, .int .i64 com, .int .i64 num, .int .i64 0, .bool false]
        rw [nEs_length]
        exact this)
      have O5 := Lib.hid (own_apartB O4.out K4.out (by decide) G5)
      have BL5 := Lib.hid (BL4.out.trans (grown_below G5 HG.out BL4.out.size))
      clear G5 K4 O4 BL4
      go_wp2_with fail
      go_roundw
      case rel => exact ⟨i + 1, c2, A2, by omega, by go_num, K5, O5, BL5⟩
      case measure => simp [intOf]; omega
    · obtain rfl : i = n := by omega
      have HL := Lib.hid (nEs_length i)
      obtain ⟨m, HM⟩ : ∃ m, Hid (m = eM kind fr dst boot view num mem pos com (nEs i)) := ⟨_, Lib.hid rfl⟩
      have KC := Lib.hid (show mcs m A c = [.int .i64 kind, .int .i64 fr, .int .i64 dst, .int .i64 boot, .int .i64 view, .int .i64 0, .int .i64 mem, .int .i64 pos, .slice A i c, .int .i64 com, .int .i64 num, .int .i64 0, .bool false] by
        rw [HM.out]
        show mcs (eM kind fr dst boot view num mem pos com (nEs i)) A c = _
        simp only [mcs, eM, HL.out])
      have HV := Lib.hid (show mv m A c = .agg #[.int .i64 kind, .int .i64 fr, .int .i64 dst, .int .i64 boot, .int .i64 view, .int .i64 0, .int .i64 mem, .int .i64 pos, .slice A i c, .int .i64 com, .int .i64 num, .int .i64 0, .bool false] by rw [mv_mcs, KC.out])
      have K6 := Lib.hid (show Blk wr g1 24 [.int .i64 kind, .int .i64 fr, .int .i64 dst, .int .i64 boot, .int .i64 view, .int .i64 0, .int .i64 mem, .int .i64 pos, .slice A i c, .int .i64 com, .int .i64 num, .int .i64 0, .bool false] by rw [← KC.out, HM.out]; exact K.out)
      have HM7 := Lib.hid (show -9223372036854775808 ≤ m.mem ∧ m.mem ≤ 9223372036854775807 by rw [HM.out]; exact HMM.out)
      have R6 := Lib.hid (show Rd wr wr.heap.size A c 7 m.es.length (els m.es) by
        rw [HM.out]
        show Rd wr wr.heap.size A c 7 (nEs i).length (els (nEs i))
        rw [HL.out]
        exact Rd.of_own O.out)
      clear K O
      go_wp2_with ((with_reducible show wpList _ _ _ ((⟨some 57, Op.load _ _, _, _, _, _⟩ : Oper) :: _) _ _); go_must (refine wpList_load_row rfl 24 (.tmp 22) rfl g1 rfl 24 #[.int .i64 kind, .int .i64 fr, .int .i64 dst, .int .i64 boot, .int .i64 view, .int .i64 0, .int .i64 mem, .int .i64 pos, .slice A i c, .int .i64 com, .int .i64 num, .int .i64 0, .bool false] (0, 0) _ K6.out Tryd.underlying24 rfl (by kernel_rfl) ?_))
      have e1 := rMayM_c wr m A c R6.out
      rw [HV.out] at e1
      refine e1.mono ?_
      clear e1
      obtain ⟨mm, MM⟩ : ∃ y, Hid (PMsg.may m = y) := ⟨_, Lib.hid rfl⟩
      rw [MM.out]
      rintro x w7 ⟨rfl, b7⟩
      have BL7 := Lib.hid (BL.out.trans (b7.mono BL.out.size))
      have K7 := Lib.hid (K6.out.past b7)
      have R7 := Lib.hid ((R6.out.past b7).tight)
      clear b7 K6 R6 BL
      go_wp2_with ((with_reducible show wpList _ _ _ ((⟨some 59, Op.load _ _, _, _, _, _⟩ : Oper) :: _) _ _); go_must (refine wpList_load_row rfl 24 (.tmp 22) rfl g1 rfl 24 #[.int .i64 kind, .int .i64 fr, .int .i64 dst, .int .i64 boot, .int .i64 view, .int .i64 0, .int .i64 mem, .int .i64 pos, .slice A i c, .int .i64 com, .int .i64 num, .int .i64 0, .bool false] (0, 0) _ K7.out Tryd.underlying24 rfl (by kernel_rfl) ?_))
      have e1 := wMay_c w7 m A c R7.out HM7.out
      rw [HV.out, MM.out] at e1
      refine e1.mono ?_
      clear e1
      rintro x w8 ⟨rfl, b8⟩
      have BL8 := Lib.hid (BL7.out.trans (b8.mono BL7.out.size))
      have K8 := Lib.hid (K7.out.past b8)
      have R8 := Lib.hid ((R7.out.past b8).tight)
      clear b8 K7 R7 BL7
      have hmm : (mm == mm) = true := by simp
      go_wp2_with ((with_reducible show wpList _ _ _ ((⟨some 64, Op.load _ _, _, _, _, _⟩ : Oper) :: _) _ _); go_must (refine wpList_unguard rfl ?_; refine wpList_load_row rfl 24 (.tmp 22) rfl g1 rfl 24 #[.int .i64 kind, .int .i64 fr, .int .i64 dst, .int .i64 boot, .int .i64 view, .int .i64 0, .int .i64 mem, .int .i64 pos, .slice A i c, .int .i64 com, .int .i64 num, .int .i64 0, .bool false] (0, 0) _ K8.out Tryd.underlying24 rfl (by kernel_rfl) ?_))
      have e1 := wEncode_c w8 m A c R8.out HM7.out (HT.out.past BL8.out)
      rw [HV.out] at e1
      refine e1.mono ?_
      clear e1
      rintro x w9 ⟨A9, c9, rfl, -, b9⟩
      have BL9 := Lib.hid (BL8.out.trans (b9.mono BL8.out.size))
      clear b9 hmm
      cases mm
      · have HN := Lib.hid (PMsg.enc_no MM.out)
        have hl : (PMsg.enc m).length = 0 := by rw [HN.out]; rfl
        go_wp2_with fail
        go_ret
        refine ⟨?_, BL9.out⟩
        show Ending.returned (.bool _) = _
        simp
      · have hp := PMsg.enc_pos MM.out
        go_wp2_with fail
        go_ret
        refine ⟨?_, BL9.out⟩
        show Ending.returned (.bool _) = _
        simp
end Go.Proofs.YtgcpofiecbpfbaaDoor

