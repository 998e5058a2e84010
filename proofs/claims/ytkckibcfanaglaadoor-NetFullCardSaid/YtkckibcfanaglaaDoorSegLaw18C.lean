/- The walk of NetFull. -/
import Derived.Test.YtkckibcfanaglaaDoorSeg11
import Derived.Lib.MinMax
namespace Go.Proofs.YtkckibcfanaglaaDoor
open Go.RowKit

set_option maxHeartbeats 4000000 in
set_option maxRecDepth 100000 in
theorem NetFull_bad (w : World) (ht : Tab w) (k more : Int) (hb : k < 0 ∨ 430 < k ∨ more < 0 ∨ 10 < more) :
    Calls Tryd.prog 4 #[.int .i64 k, .int .i64 more] w fun e w' => e = .returned (.bool true) ∧ Below w.heap.size w w' := by
  rcases Int.lt_or_le k 0 with h1 | h1
  · clear hb
    have HT := Lib.hid ht
    go_enter Tryd.func4, Tryd.ntmps4
    go_wp2_with fail
    refine (begunN_c w HT.out).mono ?_
    rintro e w1 ⟨rfl, b1⟩
    go_wp2_with fail
    go_ret
    exact ⟨rfl, b1⟩
  rcases Int.lt_or_le 430 k with h2 | h2
  · clear hb
    have HT := Lib.hid ht
    go_enter Tryd.func4, Tryd.ntmps4
    go_wp2_with fail
    refine (begunN_c w HT.out).mono ?_
    rintro e w1 ⟨rfl, b1⟩
    go_wp2_with fail
    go_ret
    exact ⟨rfl, b1⟩
  rcases Int.lt_or_le more 0 with h3 | h3
  · clear hb
    have HT := Lib.hid ht
    go_enter Tryd.func4, Tryd.ntmps4
    go_wp2_with fail
    refine (begunN_c w HT.out).mono ?_
    rintro e w1 ⟨rfl, b1⟩
    go_wp2_with fail
    go_ret
    exact ⟨rfl, b1⟩
  have h4 : 10 < more := by omega
  clear hb
  have HT := Lib.hid ht
  go_enter Tryd.func4, Tryd.ntmps4
  go_wp2_with fail
  refine (begunN_c w HT.out).mono ?_
  rintro e w1 ⟨rfl, b1⟩
  go_wp2_with fail
  go_ret
  exact ⟨rfl, b1⟩

set_option maxHeartbeats 8000000 in
set_option maxRecDepth 100000 in
theorem NetFull_good (w : World) (ht : Tab w) (k more : Nat) (hk : k ≤ 430) (hm : more ≤ 10) :
    Calls Tryd.prog 4 #[.int .i64 k, .int .i64 more] w fun e w' => e = .returned (.bool true) ∧ Below w.heap.size w w' := by
  have HT := Lib.hid ht
  clear ht
  have b1 : ¬ (k : Int) < 0 := by omega
  have b2 : ¬ (430 : Int) < k := by omega
  have b3 : ¬ (more : Int) < 0 := by omega
  have b4 : ¬ (10 : Int) < more := by omega
  go_enter Tryd.func4, Tryd.ntmps4
  go_wp2_with fail
  refine (begunN_c w HT.out).mono ?_
  rintro e w1 ⟨rfl, b1'⟩
  have B1 := Lib.hid b1'
  clear b1'
  go_wp2_with fail
  refine (nNew_sn B1.out).mono ?_
  rintro e w2 ⟨rfl, s2, -⟩
  have S2 := Lib.hid s2
  clear s2 b1 b2 b3 b4
  generalize w1.heap.size = g at *
  go_wp2_with fail
  go_loopw [7] (fun s7 wr => ∃ (i : Nat) (L : List Msg), s7 = .int .i64 i ∧ i ≤ k ∧ Hid (L.length = min i 400) ∧ Hid (Sn w wr g L)) (fun s7 _ => k - (intOf s7).toNat)
  case atStart => exact ⟨0, [], rfl, by omega, Lib.hid (by simp), S2⟩
  case round =>
    clear S2
    obtain ⟨i, L, rfl, hi, HL, SS⟩ := hrel
    by_cases hlt : i < k
    · have HM := Lib.hid (ping_may (a := 1) (b := 2) (n := i) (by omega) (by omega) (by omega) (by omega))
      have M1 := Lib.hid (show Ms (wr.alloc (.cells #[.int .i64 12, .int .i64 1, .int .i64 2, .int .i64 1, .int .i64 0, .int .i64 0, .int .i64 0, .int .i64 0, .slice none 0 0, .int .i64 0, .int .i64 i, .int .i64 0, .bool false] 31)) w.heap.size (some ⟨wr.heap.size, 0, none⟩) 1 [⟨ping 1 2 i, none, 0⟩] from Ms.lit (Q := [⟨ping 1 2 i, none, 0⟩]) #[.int .i64 12, .int .i64 1, .int .i64 2, .int .i64 1, .int .i64 0, .int .i64 0, .int .i64 0, .int .i64 0, .slice none 0 0, .int .i64 0, .int .i64 i, .int .i64 0, .bool false] rfl SS.out.bel.size (Nat.le_of_ble_eq_true rfl)
        (fun q hq => by rw [List.mem_singleton.1 hq]; exact Ow.nil _ _ _ _) (fun q hq => by rw [List.mem_singleton.1 hq]; exact (show (-9223372036854775808 : Int) ≤ 0 ∧ (0 : Int) ≤ 9223372036854775807 by decide)))
      have S1 := Lib.hid (SS.out.past ((Below.refl wr.heap.size wr).alloc (Nat.le_refl _) (.cells #[.int .i64 12, .int .i64 1, .int .i64 2, .int .i64 1, .int .i64 0, .int .i64 0, .int .i64 0, .int .i64 0, .slice none 0 0, .int .i64 0, .int .i64 i, .int .i64 0, .bool false] 31)))
      by_cases hf : 400 ≤ i
      · have HP := Lib.hid (show PNet.send L [ping 1 2 i] = L from PNet.put_full (by rw [HL.out]; omega))
        have h1 : (400 : Int) ≤ (i : Int) := by omega
        clear SS
        go_wp2_with fail
        generalize wr.alloc (.cells #[.int .i64 12, .int .i64 1, .int .i64 2, .int .i64 1, .int .i64 0, .int .i64 0, .int .i64 0, .int .i64 0, .slice none 0 0, .int .i64 0, .int .i64 i, .int .i64 0, .bool false] 31) = w3 at *
        generalize wr.heap.size = gr at *
        refine (show Calls Tryd.prog 12 #[.pointer (some ⟨g, 0, none⟩), .slice (some ⟨gr, 0, none⟩) 1 1] w3 (fun e w' => e = .returned (.int .i64 0) ∧ Sn w w' g L) from (S1.out.send HT.out M1.out (Nat.le_of_ble_eq_true rfl)).mono fun e w' ⟨h1, h2, h3⟩ => by
          have hs : PNet.send L (List.map Mp.m [⟨ping 1 2 i, none, 0⟩]) = L := HP.out
          rw [hs] at h1 h2
          exact ⟨by rw [h1, Int.sub_self], h2⟩).mono ?_
        rintro e w4 ⟨rfl, s4⟩
        have S4 := Lib.hid s4
        clear s4 S1 M1
        go_wp2_with fail
        go_roundw
        case rel => exact ⟨i + 1, L, by go_num, by omega, Lib.hid (by rw [HL.out]; omega), S4⟩
        case measure => simp [intOf]; omega
      · have HP := Lib.hid (show PNet.send L [ping 1 2 i] = L ++ [ping 1 2 i] from PNet.put_yes (by rw [HL.out]; omega) HM.out)
        have h1 : ¬ (400 : Int) ≤ (i : Int) := by omega
        clear SS
        go_wp2_with fail
        generalize wr.alloc (.cells #[.int .i64 12, .int .i64 1, .int .i64 2, .int .i64 1, .int .i64 0, .int .i64 0, .int .i64 0, .int .i64 0, .slice none 0 0, .int .i64 0, .int .i64 i, .int .i64 0, .bool false] 31) = w3 at *
        generalize wr.heap.size = gr at *
        refine (show Calls Tryd.prog 12 #[.pointer (some ⟨g, 0, none⟩), .slice (some ⟨gr, 0, none⟩) 1 1] w3 (fun e w' => e = .returned (.int .i64 1) ∧ Sn w w' g (L ++ [ping 1 2 i])) from (S1.out.send HT.out M1.out (Nat.le_of_ble_eq_true rfl)).mono fun e w' ⟨h1, h2, h3⟩ => by
          have hs : PNet.send L (List.map Mp.m [⟨ping 1 2 i, none, 0⟩]) = L ++ [ping 1 2 i] := HP.out
          rw [hs] at h1 h2
          exact ⟨by rw [h1, List.length_append, List.length_singleton]; congr 2; omega, h2⟩).mono ?_
        rintro e w4 ⟨rfl, s4⟩
        have S4 := Lib.hid s4
        clear s4 S1 M1
        go_wp2_with fail
        go_roundw
        case rel => exact ⟨i + 1, _, by go_num, by omega, Lib.hid (by rw [List.length_append, List.length_singleton, HL.out]; omega), S4⟩
        case measure => simp [intOf]; omega
    · obtain rfl : i = k := by omega
      go_wp2_with fail
      go_loopw [9, 10] (fun s9 s10 wr => ∃ (j : Nat) (A : Option Addr) (c : Nat) (Q : List Mp), s10 = .int .i64 j ∧ j ≤ more ∧ s9 = .slice A j c ∧ Hid (Q.length = j ∧ ∀ m ∈ Q.map Mp.m, PMsg.may m = true) ∧ Hid (Ms wr w.heap.size A c Q) ∧ Hid (Sn w wr g L)) (fun _ s10 _ => more - (intOf s10).toNat)
      case atStart => exact ⟨0, none, 0, [], rfl, by omega, rfl, Lib.hid ⟨rfl, by simp⟩, Lib.hid (Ms.nil _ _), SS⟩
      case round =>
        clear SS
        obtain ⟨j, A, c, Q, rfl, hj, rfl, HQ, MM, SS⟩ := hrel
        by_cases hlt : j < more
        · have HM := Lib.hid (ping_may (a := 2) (b := 3) (n := 0) (by omega) (by omega) (by omega) (by omega))
          have bA := (Below.refl wr.heap.size wr).alloc (Nat.le_refl _) (.cells #[.int .i64 12, .int .i64 2, .int .i64 3, .int .i64 1, .int .i64 0, .int .i64 0, .int .i64 0, .int .i64 0, .slice none 0 0, .int .i64 0, .int .i64 0, .int .i64 0, .bool false] 31)
          have MA := Lib.hid (MM.out.past bA)
          have SA := Lib.hid (SS.out.past bA)
          have RN := Lib.hid (Rd.new wr #[.int .i64 12, .int .i64 2, .int .i64 3, .int .i64 1, .int .i64 0, .int .i64 0, .int .i64 0, .int .i64 0, .slice none 0 0, .int .i64 0, .int .i64 0, .int .i64 0, .bool false] 31 13 1 rfl (by unfold maxLen; omega))
          have hq := HQ.out.1
          clear bA MM SS
          go_wp2_with (at_builtin; go_must (refine wpList_app2 rfl (.tmp 48) (.tmp 50) 26 rfl w.heap.size 31 _ 13 120 Tryd.underlying26 nMsg_info rfl (by omega) A j c (mgs Q) rfl (by rw [← hq]; exact MA.out.row) _ _ 1 1 (mgc ⟨ping 2 3 0, none, 0⟩) rfl RN.out (mgc_oneCell _) ?c1 ?c2 SA.out.bel.size ?_))
          case c1 => unfold maxLen; omega
          case c2 => omega
          intro A2 c2 w3 O3 g3 h3
          subst hq
          have M3 := Lib.hid (MA.out.app (q := ⟨ping 2 3 0, none, 0⟩) g3 O3 (Ow.nil _ _ _ _) ⟨by decide, by decide⟩)
          have S3 := Lib.hid (SA.out.row MA.out.row (Nat.le_refl _) (by decide) (by decide) (by decide) g3)
          clear O3 g3 h3 MA SA RN
          go_wp2_with fail
          go_roundw
          case rel => exact ⟨Q.length + 1, A2, c2, Q ++ [⟨ping 2 3 0, none, 0⟩], by go_num, by omega, rfl, Lib.hid ⟨by simp, fun m hm => by
            rw [List.map_append] at hm
            rcases List.mem_append.1 hm with h | h
            · exact HQ.out.2 m h
            · rw [show m = ping 2 3 0 from by simpa using h]; exact HM.out⟩, M3, S3⟩
          case measure => simp [intOf]; omega
        · obtain rfl : j = more := by omega
          have HLE := Lib.hid (PNet.send_all (L := L) (ms := Q.map Mp.m) (by rw [HL.out]; omega) HQ.out.2)
          have hq := HQ.out.1
          subst hq
          have e1 : (((PNet.send L (Q.map Mp.m)).length : Int) - (L.length : Int)) = min (Q.length : Int) (max 0 (400 - (i : Int))) := by
            rw [HLE.out, HL.out, List.length_map]; omega
          have e2 : (((PNet.send L (Q.map Mp.m)).length : Nat) : Int) = min 400 ((i : Int) + (Q.length : Int)) := by
            rw [HLE.out, HL.out, List.length_map]; omega
          have E1 := Lib.hid e1
          have E2 := Lib.hid e2
          clear e1 e2
          go_wp2_with fail
          refine (show Calls Tryd.prog 12 #[.pointer (some ⟨g, 0, none⟩), .slice A Q.length c] wr (fun e w' => e = .returned (.int .i64 (min (Q.length : Int) (max 0 (400 - (i : Int))))) ∧ Sn w w' g (PNet.send L (Q.map Mp.m))) from (SS.out.send HT.out MM.out (by omega)).mono fun e w' ⟨h1, h2, h3⟩ => ⟨by rw [h1, E1.out], h2⟩).mono ?_
          rintro e w4 ⟨rfl, s4⟩
          have S4 := Lib.hid s4
          clear s4 SS MM
          go_wp2_with fail
          refine (S4.out.len).mono ?_
          rw [E2.out]
          rintro e w5 ⟨rfl, rfl⟩
          go_wp2_with fail
          go_ret
          exact ⟨rfl, S4.out.bel⟩
theorem NetFull_w (w : World) (ht : Tab w) (k more : Int) : Calls Tryd.prog 4 #[.int .i64 k, .int .i64 more] w fun e w' => e = .returned (.bool true) ∧ Below w.heap.size w w' := by
  by_cases h : k < 0 ∨ 430 < k ∨ more < 0 ∨ 10 < more
  · exact NetFull_bad w ht k more h
  · obtain ⟨k', rfl⟩ := Int.eq_ofNat_of_zero_le (show 0 ≤ k by omega)
    obtain ⟨m', rfl⟩ := Int.eq_ofNat_of_zero_le (show 0 ≤ more by omega)
    exact NetFull_good w ht k' m' (by omega) (by omega)
end Go.Proofs.YtkckibcfanaglaaDoor

