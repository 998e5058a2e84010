/- The walk of NetOrder. -/
import Derived.Test.YtkckibcfanaglaaDoorSeg11
import Derived.Test.YtkckibcfanaglaaDoorSeg3
namespace Go.Proofs.YtkckibcfanaglaaDoor
open Go.RowKit

set_option maxHeartbeats 4000000 in
set_option maxRecDepth 100000 in
theorem NetOrder_bad (w : World) (ht : Tab w) (n : Int) (TA : Option Addr) (tc tn : Nat) (hb : n < 0 ∨ 60 < n) :
    Calls Tryd.prog 7 #[.int .i64 n, .slice TA tn tc] w fun e w' => e = .returned (.bool true) ∧ Below w.heap.size w w' := by
  rcases Int.lt_or_le n 0 with h1 | h1
  · clear hb
    have HT := Lib.hid ht
    go_enter Tryd.func7, Tryd.ntmps7
    go_wp2_with fail
    refine (begunN_c w HT.out).mono ?_
    rintro e w1 ⟨rfl, b1⟩
    go_wp2_with fail
    go_ret
    exact ⟨rfl, b1⟩
  have h4 : 60 < n := by omega
  clear hb
  have HT := Lib.hid ht
  go_enter Tryd.func7, Tryd.ntmps7
  go_wp2_with fail
  refine (begunN_c w HT.out).mono ?_
  rintro e w1 ⟨rfl, b1⟩
  go_wp2_with fail
  go_ret
  exact ⟨rfl, b1⟩

theorem tmod_in (x : Int) {n : Nat} (hn : 0 < n) : ∃ k : Nat, k < n ∧ -(n : Int) < Int.tmod x n ∧ Int.tmod x n < n ∧ Int.tmod (Int.tmod x n + n) n = (k : Int) := by
  have h1 : Int.tmod x n < n := Int.tmod_lt_of_pos x (by omega)
  have h2 : -(n : Int) < Int.tmod x n := by
    have := Int.lt_tmod_of_pos x (b := (n : Int)) (by omega)
    omega
  have h3 : 0 ≤ Int.tmod x n + n := by omega
  refine ⟨(Int.tmod (Int.tmod x n + n) n).toNat, ?_, h2, h1, ?_⟩
  · have h5 := Int.tmod_lt_of_pos (Int.tmod x n + n) (b := (n : Int)) (by omega)
    have h6 := Int.tmod_nonneg (n : Int) h3
    omega
  · have h6 := Int.tmod_nonneg (n : Int) h3
    omega

set_option maxHeartbeats 8000000 in
set_option maxRecDepth 100000 in
theorem NetOrder_good (w : World) (ht : Tab w) (n : Nat) (hn : n ≤ 60) (TA : Option Addr) (tc tn : Nat) (tl : List Int) (hr : Rd w w.heap.size TA tc 1 tn (is tl)) (hf : ∀ x ∈ tl, -9223372036854775808 ≤ x ∧ x ≤ 9223372036854775807) :
    Calls Tryd.prog 7 #[.int .i64 n, .slice TA tn tc] w fun e w' => e = .returned (.bool true) ∧ Below w.heap.size w w' := by
  have HT := Lib.hid ht
  have HR := Lib.hid hr
  have HF := Lib.hid hf
  have htc := hr.cap
  have htn := hr.le
  unfold maxLen at htc
  clear ht hr hf
  have b1 : ¬ (n : Int) < 0 := by omega
  have b2 : ¬ (60 : Int) < n := by omega
  go_enter Tryd.func7, Tryd.ntmps7
  go_wp2_with fail
  refine (begunN_c w HT.out).mono ?_
  rintro e w1 ⟨rfl, b1'⟩
  have B1 := Lib.hid b1'
  clear b1'
  go_wp2_with fail
  refine (nNew_sn B1.out).mono ?_
  rintro e w2 ⟨rfl, s2, -⟩
  have S2 := Lib.hid s2
  clear s2 b1 b2
  generalize w1.heap.size = g at *
  go_wp2_with fail
  go_loopw [7, 8] (fun s7 s8 wr => ∃ (i : Nat) (A : Option Addr) (c : Nat) (Q : List Mp), s8 = .int .i64 i ∧ i ≤ n ∧ s7 = .slice A i c ∧ Hid (Q.length = i ∧ ∀ m ∈ Q.map Mp.m, PMsg.may m = true) ∧ Hid (Ms wr w.heap.size A c Q) ∧ Hid (Sn w wr g (Q.map Mp.m))) (fun _ s8 _ => n - (intOf s8).toNat)
  case atStart => exact ⟨0, none, 0, [], rfl, by omega, rfl, Lib.hid ⟨rfl, by simp⟩, Lib.hid (Ms.nil _ _), S2⟩
  case round =>
    clear S2
    obtain ⟨i, A, c, Q, rfl, hi, rfl, HQ, MM, SS⟩ := hrel
    by_cases hlt : i < n
    · have ht : Int.tmod (i : Int) 6 = (i : Int) % 6 := Int.tmod_eq_emod_of_nonneg (by omega)
      have HM := Lib.hid (ping_may (a := 1) (b := 2 + (i : Int) % 6) (n := i) (by omega) (by omega) (by omega) (by omega))
      have HFIT := Lib.hid (show (-9223372036854775808 : Int) ≤ (ping 1 (2 + (i : Int) % 6) i).mem ∧ (ping 1 (2 + (i : Int) % 6) i).mem ≤ 9223372036854775807 from (show (-9223372036854775808 : Int) ≤ 0 ∧ (0 : Int) ≤ 9223372036854775807 by decide))
      have bA := (Below.refl wr.heap.size wr).alloc (Nat.le_refl _) (.cells #[.int .i64 12, .int .i64 1, .int .i64 (2 + (i : Int) % 6), .int .i64 1, .int .i64 0, .int .i64 0, .int .i64 0, .int .i64 0, .slice none 0 0, .int .i64 0, .int .i64 i, .int .i64 0, .bool false] 31)
      have K1 := Lib.hid (show Blk (wr.alloc (.cells #[.int .i64 12, .int .i64 1, .int .i64 (2 + (i : Int) % 6), .int .i64 1, .int .i64 0, .int .i64 0, .int .i64 0, .int .i64 0, .slice none 0 0, .int .i64 0, .int .i64 i, .int .i64 0, .bool false] 31)) wr.heap.size 31 (mcs (ping 1 (2 + (i : Int) % 6) i) none 0) from Blk.new wr #[.int .i64 12, .int .i64 1, .int .i64 (2 + (i : Int) % 6), .int .i64 1, .int .i64 0, .int .i64 0, .int .i64 0, .int .i64 0, .slice none 0 0, .int .i64 0, .int .i64 i, .int .i64 0, .bool false] 31)
      have bB := (Below.refl (wr.alloc (.cells #[.int .i64 12, .int .i64 1, .int .i64 (2 + (i : Int) % 6), .int .i64 1, .int .i64 0, .int .i64 0, .int .i64 0, .int .i64 0, .slice none 0 0, .int .i64 0, .int .i64 i, .int .i64 0, .bool false] 31)).heap.size (wr.alloc (.cells #[.int .i64 12, .int .i64 1, .int .i64 (2 + (i : Int) % 6), .int .i64 1, .int .i64 0, .int .i64 0, .int .i64 0, .int .i64 0, .slice none 0 0, .int .i64 0, .int .i64 i, .int .i64 0, .bool false] 31))).alloc (Nat.le_refl _) (.cells #[.int .i64 12, .int .i64 1, .int .i64 (2 + (i : Int) % 6), .int .i64 1, .int .i64 0, .int .i64 0, .int .i64 0, .int .i64 0, .slice none 0 0, .int .i64 0, .int .i64 i, .int .i64 0, .bool false] 31)
      have bAB := bA.trans (bB.mono bA.size)
      have MA := Lib.hid (MM.out.past bAB)
      have SA := Lib.hid (SS.out.past bAB)
      have KA := Lib.hid (K1.out.past bB)
      have RN := Lib.hid (show Rd ((wr.alloc (.cells #[.int .i64 12, .int .i64 1, .int .i64 (2 + (i : Int) % 6), .int .i64 1, .int .i64 0, .int .i64 0, .int .i64 0, .int .i64 0, .slice none 0 0, .int .i64 0, .int .i64 i, .int .i64 0, .bool false] 31)).alloc (.cells #[.int .i64 12, .int .i64 1, .int .i64 (2 + (i : Int) % 6), .int .i64 1, .int .i64 0, .int .i64 0, .int .i64 0, .int .i64 0, .slice none 0 0, .int .i64 0, .int .i64 i, .int .i64 0, .bool false] 31)) (wr.heap.size + 1 + 1) (some ⟨wr.heap.size + 1, 0, none⟩) 1 13 1 (mgc ⟨ping 1 (2 + (i : Int) % 6) i, none, 0⟩) from by
        have := Rd.new (wr.alloc (.cells #[.int .i64 12, .int .i64 1, .int .i64 (2 + (i : Int) % 6), .int .i64 1, .int .i64 0, .int .i64 0, .int .i64 0, .int .i64 0, .slice none 0 0, .int .i64 0, .int .i64 i, .int .i64 0, .bool false] 31)) #[.int .i64 12, .int .i64 1, .int .i64 (2 + (i : Int) % 6), .int .i64 1, .int .i64 0, .int .i64 0, .int .i64 0, .int .i64 0, .slice none 0 0, .int .i64 0, .int .i64 i, .int .i64 0, .bool false] 31 13 1 rfl (by unfold maxLen; omega)
        rw [show (wr.alloc (.cells #[.int .i64 12, .int .i64 1, .int .i64 (2 + (i : Int) % 6), .int .i64 1, .int .i64 0, .int .i64 0, .int .i64 0, .int .i64 0, .slice none 0 0, .int .i64 0, .int .i64 i, .int .i64 0, .bool false] 31)).heap.size = wr.heap.size + 1 by simp] at this
        exact this)
      have HIA := Lib.hid (show ∀ x, bk A = some x → x < wr.heap.size from MM.out.row.hi)
      have hq := HQ.out.1
      have MR := Lib.hid (show Ow ((wr.alloc (.cells #[.int .i64 12, .int .i64 1, .int .i64 (2 + (i : Int) % 6), .int .i64 1, .int .i64 0, .int .i64 0, .int .i64 0, .int .i64 0, .slice none 0 0, .int .i64 0, .int .i64 i, .int .i64 0, .bool false] 31)).alloc (.cells #[.int .i64 12, .int .i64 1, .int .i64 (2 + (i : Int) % 6), .int .i64 1, .int .i64 0, .int .i64 0, .int .i64 0, .int .i64 0, .slice none 0 0, .int .i64 0, .int .i64 i, .int .i64 0, .bool false] 31)) w.heap.size 31 13 A i c (mgs Q) from by have := MA.out.row; rw [hq] at this; exact this)
      clear bA bB bAB MM SS
      go_wp2_with (first | (at_builtin; go_must (refine wpList_app2 rfl (.tmp 37) (.tmp 39) 26 rfl w.heap.size 31 _ 13 120 Tryd.underlying26 nMsg_info rfl (by omega) A i c (mgs Q) rfl MR.out _ _ 1 1 (mgc ⟨ping 1 (2 + (i : Int) % 6) i, none, 0⟩) rfl RN.out (mgc_oneCell _) ?c1 ?c2 SA.out.bel.size ?_)) | ((with_reducible show wpList _ _ _ ((⟨some 38, Op.load _ _, _, _, _, _⟩ : Oper) :: _) _ _); go_must (refine wpList_load_row rfl 31 (.tmp 9) rfl wr.heap.size rfl 31 #[.int .i64 12, .int .i64 1, .int .i64 (2 + (i : Int) % 6), .int .i64 1, .int .i64 0, .int .i64 0, .int .i64 0, .int .i64 0, .slice none 0 0, .int .i64 0, .int .i64 i, .int .i64 0, .bool false] (0, 0) _ K1.out Tryd.underlying31 rfl (by kernel_rfl) ?_)))
      case c1 => unfold maxLen; omega
      case c2 => omega
      intro A2 c2 w3 O3 g3 h3
      subst hq
      have M3 := Lib.hid (MA.out.app (q := ⟨ping 1 (2 + (Q.length : Int) % 6) Q.length, none, 0⟩) g3 O3 (Ow.nil _ _ _ _) HFIT.out)
      have S3 := Lib.hid (SA.out.row MA.out.row (Nat.le_refl _) (by decide) (by decide) (by decide) g3)
      have KX := Lib.hid (show Blk w3 wr.heap.size 31 (mcs (ping 1 (2 + (Q.length : Int) % 6) Q.length) none 0) from KA.out.touch (Touch.of_bk g3) (fun hm => by have := HIA.out _ (mem_bl.1 hm); omega))
      clear O3 g3 h3 MA SA RN MR K1 KA HIA
      have b4 := (Below.refl w3.heap.size w3).alloc (Nat.le_refl _) (.cells #[.int .i64 12, .int .i64 1, .int .i64 (2 + (Q.length : Int) % 6), .int .i64 1, .int .i64 0, .int .i64 0, .int .i64 0, .int .i64 0, .slice none 0 0, .int .i64 0, .int .i64 Q.length, .int .i64 0, .bool false] 31)
      have M4 := Lib.hid (M3.out.past b4)
      have S4 := Lib.hid (S3.out.past b4)
      have N4 := Lib.hid (show Ms (w3.alloc (.cells #[.int .i64 12, .int .i64 1, .int .i64 (2 + (Q.length : Int) % 6), .int .i64 1, .int .i64 0, .int .i64 0, .int .i64 0, .int .i64 0, .slice none 0 0, .int .i64 0, .int .i64 Q.length, .int .i64 0, .bool false] 31)) w.heap.size (some ⟨w3.heap.size, 0, none⟩) 1 [⟨ping 1 (2 + (Q.length : Int) % 6) Q.length, none, 0⟩] from Ms.lit (Q := [⟨ping 1 (2 + (Q.length : Int) % 6) Q.length, none, 0⟩]) #[.int .i64 12, .int .i64 1, .int .i64 (2 + (Q.length : Int) % 6), .int .i64 1, .int .i64 0, .int .i64 0, .int .i64 0, .int .i64 0, .slice none 0 0, .int .i64 0, .int .i64 Q.length, .int .i64 0, .bool false] rfl S3.out.bel.size (Nat.le_of_ble_eq_true rfl)
        (fun q hq => by rw [List.mem_singleton.1 hq]; exact Ow.nil _ _ _ _) (fun q hq => by rw [List.mem_singleton.1 hq]; exact HFIT.out))
      have HP := Lib.hid (show PNet.send (Q.map Mp.m) [ping 1 (2 + (Q.length : Int) % 6) Q.length] = Q.map Mp.m ++ [ping 1 (2 + (Q.length : Int) % 6) Q.length] from PNet.put_yes (by rw [List.length_map]; omega) HM.out)
      clear b4 M3 S3
      go_wp2_with ((with_reducible show wpList _ _ _ ((⟨some 42, Op.load _ _, _, _, _, _⟩ : Oper) :: _) _ _); go_must (refine wpList_load_row rfl 31 (.tmp 9) rfl wr.heap.size rfl 31 #[.int .i64 12, .int .i64 1, .int .i64 (2 + (Q.length : Int) % 6), .int .i64 1, .int .i64 0, .int .i64 0, .int .i64 0, .int .i64 0, .slice none 0 0, .int .i64 0, .int .i64 Q.length, .int .i64 0, .bool false] (0, 0) _ KX.out Tryd.underlying31 rfl (by kernel_rfl) ?_))
      generalize w3.alloc (.cells #[.int .i64 12, .int .i64 1, .int .i64 (2 + (Q.length : Int) % 6), .int .i64 1, .int .i64 0, .int .i64 0, .int .i64 0, .int .i64 0, .slice none 0 0, .int .i64 0, .int .i64 Q.length, .int .i64 0, .bool false] 31) = w4 at *
      generalize w3.heap.size = gr at *
      refine (show Calls Tryd.prog 12 #[.pointer (some ⟨g, 0, none⟩), .slice (some ⟨gr, 0, none⟩) 1 1] w4 (fun e w' => (∃ z, e = .returned (.int .i64 z)) ∧ Sn w w' g (Q.map Mp.m ++ [ping 1 (2 + (Q.length : Int) % 6) Q.length]) ∧ NtT w4 w') from (S4.out.send HT.out N4.out (Nat.le_of_ble_eq_true rfl)).mono fun e w' ⟨h1, h2, h3⟩ => by
        have hs : PNet.send (Q.map Mp.m) (List.map Mp.m [⟨ping 1 (2 + (Q.length : Int) % 6) Q.length, none, 0⟩]) = Q.map Mp.m ++ [ping 1 (2 + (Q.length : Int) % 6) Q.length] := HP.out
        rw [hs] at h1 h2
        exact ⟨⟨_, h1⟩, h2, h3⟩).mono ?_
      rintro e w5 ⟨⟨z, rfl⟩, s5, n5⟩
      have S5 := Lib.hid s5
      have M5 := Lib.hid (n5.ms M4.out)
      clear s5 n5 M4 S4 N4
      go_wp2_with fail
      go_roundw
      case rel => exact ⟨Q.length + 1, A2, c2, Q ++ [⟨ping 1 (2 + (Q.length : Int) % 6) Q.length, none, 0⟩], by go_num, by omega, rfl, Lib.hid ⟨by simp, fun m hm => by
        rw [List.map_append] at hm
        rcases List.mem_append.1 hm with h | h
        · exact HQ.out.2 m h
        · rw [show m = ping 1 (2 + (Q.length : Int) % 6) Q.length from by simpa using h]; exact HM.out⟩, M5, Lib.hid (by rw [List.map_append]; exact S5.out)⟩
      case measure => simp [intOf]; omega
    · obtain rfl : i = n := by omega
      have HQL := Lib.hid HQ.out.1
      clear HQ
      have hq60 : Q.length ≤ 60 := by have := HQL.out; omega
      go_wp2_with fail
      go_loopw [7, 10] (fun s7 s10 wr => ∃ (j : Nat) (A : Option Addr) (c : Nat) (Q : List Mp), s10 = .int .i64 j ∧ j ≤ tn ∧ j ≤ 40 ∧ Q.length ≤ 60 ∧ s7 = .slice A Q.length c ∧ Hid (Ms wr w.heap.size A c Q) ∧ Hid (Sn w wr g (Q.map Mp.m))) (fun _ s10 _ => tn - (intOf s10).toNat)
      case atStart => exact ⟨0, A, c, Q, rfl, by omega, by omega, hq60, by rw [HQL.out], MM, SS⟩
      case round =>
        clear MM SS HQL hq60
        obtain ⟨i, A, c, Q, rfl, hi, hi40, hq60, rfl, MM, SS⟩ := hrel
        by_cases h1 : i < tn
        · by_cases h2 : i < 40
          · by_cases h3 : 0 < Q.length
            · have h3' : (0 : Int) < (Q.length : Int) := by omega
              have h2' : (i : Int) < 40 := by omega
              obtain ⟨bt, ot, x, rfl, hx, hxd, hxe⟩ := (HR.out.past SS.out.bel).int h1
              have hxb := HF.out x (by
                have : x ∈ tl.drop i := by rw [hxd]; exact List.mem_cons_self ..
                exact List.mem_of_mem_drop this)
              obtain ⟨k, hk, m1, m2, m3⟩ := tmod_in x h3
              obtain ⟨r, hr⟩ : ∃ r, Int.tmod x (Q.length : Int) = r := ⟨_, rfl⟩
              rw [hr] at m1 m2 m3
              obtain ⟨q, hq⟩ : ∃ q, Q[k]? = some q := ⟨_, List.getElem?_eq_getElem hk⟩
              have HXM := Lib.hid (show (Q.map Mp.m)[k]? = some q.m by rw [List.getElem?_map, hq]; rfl)
              have HQ := Lib.hid hq
              clear hxd hxe hq
              go_wp2_with fail
              refine (SS.out.take_in HXM.out).mono ?_
              rintro y w4 ⟨A4, c4, rfl, o4, s4, n4⟩
              have R4 := Lib.hid o4.rd
              have S4 := Lib.hid s4
              have M4 := Lib.hid (n4.ms MM.out)
              clear o4 s4 n4 SS MM hx hxb m1 m2 m3 hr
              obtain ⟨b, o, q', rfl, hbl, hq', -, hg4, he4⟩ := M4.out.at_ hk
              obtain rfl : q = q' := Option.some.inj (HQ.out.symm.trans hq')
              have G4 := Lib.hid hg4
              have E4 := Lib.hid he4
              have HBL := Lib.hid hbl
              have hcap := M4.out.cap
              clear hq' hbl hg4 he4
              go_wp2_with fail
-- REGION curfew/curfewlaw18.NetOrder 19 norder19 14
              refine Hb.begin ?_
              refine Hb.take (v := .bool true) 0 79 rfl ?_ (fun _ _ => rfl)
              refine Hb.take (v := .bool false) 1 80 rfl ?_ (fun w' hw' => by go_simp; first | done | rfl | omega | exact wrap_in (by omega) (by omega) | exact Int.tmod_eq_emod_of_nonneg (by omega) | exact Int.tdiv_eq_ediv_of_nonneg (by omega) | (simp; omega))
              refine Hb.take (v := .bool false) 2 81 rfl ?_ (fun _ _ => rfl)
              refine Hb.take (v := .slice A4 (PMsg.enc q.m).length c4) 3 82 rfl ?_ (fun _ _ => rfl)
              refine Hb.take (v := .string (strOfNums (PMsg.enc q.m))) 4 83 rfl ?_ (fun w' hw' => by exact run_toStrOp 5 rfl (R4.out.drew.below hw') Tryd.underlying35 Tryd.underlying5 Tryd.underlying9)
              refine Hb.take (v := .slice (some ⟨b, o, none⟩) Q.length c) 5 84 rfl ?_ (fun _ _ => rfl)
              refine Hb.take (v := .int .i64 (k : Nat)) 6 85 rfl ?_ (fun _ _ => rfl)
              refine Hb.take (v := .pointer (some ⟨b, o + k * 13, none⟩)) 7 86 rfl ?_ (fun w' hw' => by go_simp; first | done | rfl | omega | exact wrap_in (by omega) (by omega) | exact Int.tmod_eq_emod_of_nonneg (by omega) | exact Int.tdiv_eq_ediv_of_nonneg (by omega) | (simp; omega))
              refine Hb.take (v := mv q.m q.A q.c) 8 87 rfl ?_ (fun w' hw' => by exact run_loadMr (rangeAt_below (show w4.drew.rangeAt _ _ _ from G4.out) hw' HBL.out) rfl)
              refine Hb.call (f := 15) (args := #[mv q.m q.A q.c]) 9 88 rfl ?_ (run_callf Tryd.func15 (by kernel_rfl) (by kernel_rfl) (by simp only [List.map_toArray, List.map_cons, List.map_nil]; rfl))
              refine (rBytes_c w4.drew q.m q.A q.c E4.out.drew).mono ?_
              rintro y w5 ⟨A5, c5, rfl, o5, b5⟩
              have R5 := Lib.hid (Rd.of_own o5)
              have B5 := Lib.hid (show Below w4.heap.size w4 w5 from (Below.refl _ _).drew.trans b5)
              refine Hb.back b5 b5.size ?_
              refine Hb.take (v := .string (strOfNums (PMsg.enc q.m))) 10 89 rfl ?_ (fun w' hw' => by exact run_toStrOp 5 rfl (R5.out.below hw') Tryd.underlying35 Tryd.underlying5 Tryd.underlying9)
              refine Hb.take (v := .bool false) 11 90 rfl ?_ (fun w' hw' => by exact run_strNe rfl rfl (by simp))
              refine Hb.take (v := .bool false) 12 91 rfl ?_ (fun _ _ => rfl)
              refine Hb.done ?_
-- END
              go_wp2_with fail
              have S5 := Lib.hid (S4.out.past B5.out)
              have M5 := Lib.hid (M4.out.past B5.out)
              have HH4 := Lib.hid (show Ow w5.drew _ _ _ _ _ _ _ from M5.out.head (Nat.le_of_lt hk))
              have HR4 := Lib.hid ((M5.out.rest hk).drew)
              have HSZ := Lib.hid (show w.heap.size ≤ w5.drew.heap.size from S5.out.bel.size)
              clear R4 S4 M4 G4 E4 HBL B5 R5
-- REGION curfew/curfewlaw18.NetOrder 21 norder21 14
              refine Hb.begin ?_
              refine Hb.take 0 92 rfl ?_ (fun w' hw' => by go_simp; first | done | rfl)
              refine Hb.take (v := .int .i64 (k : Nat)) 1 93 rfl ?_ (fun _ _ => rfl)
              refine Hb.take (v := .int .i64 (k : Nat)) 2 94 rfl ?_ (fun _ _ => rfl)
              refine Hb.take (v := .slice (some ⟨b, o, none⟩) k k) 3 95 rfl ?_ (fun w' hw' => by exact run_headOp 31 Tryd.underlying26 nMsg_info (by omega) rfl rfl rfl)
              refine Hb.take 4 96 rfl ?_ (fun w' hw' => by go_simp; first | done | rfl)
              refine Hb.take (v := .int .i64 (k : Nat)) 5 97 rfl ?_ (fun _ _ => rfl)
              refine Hb.take (v := .int .i64 ((k + 1 : Nat) : Int)) 6 98 rfl ?_ (fun w' hw' => by go_simp; first | done | rfl | omega | exact wrap_in (by omega) (by omega) | exact Int.tmod_eq_emod_of_nonneg (by omega) | exact Int.tdiv_eq_ediv_of_nonneg (by omega) | (simp; omega))
              refine Hb.take (v := .slice (if c = k + 1 then (some ⟨b, o, none⟩ : Option Addr) else (some ⟨b, o, none⟩ : Option Addr).map (·.add ((k + 1) * 13))) (Q.length - (k + 1)) (c - (k + 1))) 7 99 rfl ?_ (fun w' hw' => by exact run_restOp 31 Tryd.underlying26 nMsg_info (by omega) (by omega) rfl rfl)
              refine Hb.only 8 (some 100) rfl ?_
              refine wpList_appH rfl (.tmp 95) (.tmp 99) 26 rfl w.heap.size 31 _ 13 120 Tryd.underlying26 nMsg_info rfl (by omega) (some ⟨b, o, none⟩) k k (mgs (Q.take k)) rfl HH4.out _ _ _ (Q.length - (k + 1)) (mgs (Q.drop (k + 1))) rfl HR4.out (mgs_oneCell _) (by unfold maxLen; omega) (by omega) HSZ.out rfl ?_
              intro A2 c2 w6 O6 g6
              have b6 := below_none g6
              refine Hb.next b6 b6.size ?_ (by simp only [Act.put, List.setIfInBounds_toArray, List.set_cons_succ, List.set_cons_zero]; rfl)
              refine Hb.take (v := .slice A2 (k + (Q.length - (k + 1)) : Nat) c2) 9 7 rfl ?_ (fun _ _ => rfl)
              refine Hb.done ?_
-- END
              have B6 := Lib.hid (show Below w5.heap.size w5 w6 from (Below.refl _ _).drew.trans b6)
              have S6 := Lib.hid (S5.out.past B6.out)
              have M6 := Lib.hid (M5.out.del B6.out hk O6)
              have E6 := Lib.hid (show k + (Q.length - (k + 1)) = (Q.take k ++ Q.drop (k + 1)).length by simp; omega)
              clear b6 O6 g6 S5 M5 HH4 HR4 B6
              go_wp2_with fail
              go_roundw
              case rel => exact ⟨i + 1, A2, c2, Q.take k ++ Q.drop (k + 1), by go_num, by omega, by omega, by rw [← E6.out]; omega, by rw [← E6.out], M6, Lib.hid (by rw [← PNet.del_map]; exact S6.out)⟩
              case measure => simp [intOf]; omega
            · have h3' : ¬ (0 : Int) < (Q.length : Int) := by omega
              have h2' : (i : Int) < 40 := by omega
              go_wp2_with fail
              go_loopw [14] (fun s14 wr => ∃ j : Nat, s14 = .int .i64 j ∧ j ≤ Q.length ∧ Hid (Ms wr w.heap.size A c Q) ∧ Hid (Sn w wr g (Q.map Mp.m))) (fun s14 _ => Q.length - (intOf s14).toNat)
              case atStart => exact ⟨0, rfl, by omega, MM, SS⟩
              case round =>
                clear MM SS
                obtain ⟨j, rfl, hj, MM, SS⟩ := hrel
                by_cases hlt : j < Q.length
                · obtain ⟨q, hq⟩ : ∃ q, Q[j]? = some q := ⟨_, List.getElem?_eq_getElem hlt⟩
                  have HXM := Lib.hid (show (Q.map Mp.m)[j]? = some q.m by rw [List.getElem?_map, hq]; rfl)
                  have HQ := Lib.hid hq
                  clear hq
                  go_wp2_with fail
                  refine (SS.out.look_in HXM.out).mono ?_
                  rintro y w4 ⟨A4, c4, rfl, o4, b4⟩
                  have R4 := Lib.hid o4.rd
                  have S4 := Lib.hid (SS.out.past b4)
                  have M4 := Lib.hid (MM.out.past b4)
                  clear o4 b4 SS MM
                  obtain ⟨b, o, q', rfl, hbl, hq', -, hg4, he4⟩ := M4.out.at_ hlt
                  obtain rfl : q = q' := Option.some.inj (HQ.out.symm.trans hq')
                  have G4 := Lib.hid hg4
                  have E4 := Lib.hid he4
                  have HBL := Lib.hid hbl
                  have hcap := M4.out.cap
                  clear hq' hbl hg4 he4
                  go_wp2_with fail
-- REGION curfew/curfewlaw18.NetOrder 26 norder26 18
                  refine Hb.begin ?_
                  refine Hb.take (v := .bool true) 0 113 rfl ?_ (fun _ _ => rfl)
                  refine Hb.take (v := .bool false) 1 114 rfl ?_ (fun w' hw' => by go_simp; first | done | rfl | omega | exact wrap_in (by omega) (by omega) | exact Int.tmod_eq_emod_of_nonneg (by omega) | exact Int.tdiv_eq_ediv_of_nonneg (by omega) | (simp; omega))
                  refine Hb.take (v := .bool false) 2 115 rfl ?_ (fun _ _ => rfl)
                  refine Hb.take (v := .slice A4 (PMsg.enc q.m).length c4) 3 116 rfl ?_ (fun _ _ => rfl)
                  refine Hb.take (v := .string (strOfNums (PMsg.enc q.m))) 4 117 rfl ?_ (fun w' hw' => by exact run_toStrOp 5 rfl (R4.out.drew.below hw') Tryd.underlying35 Tryd.underlying5 Tryd.underlying9)
                  refine Hb.take (v := .slice (some ⟨b, o, none⟩) Q.length c) 5 118 rfl ?_ (fun _ _ => rfl)
                  refine Hb.take (v := .int .i64 (j : Nat)) 6 119 rfl ?_ (fun _ _ => rfl)
                  refine Hb.take (v := .pointer (some ⟨b, o + j * 13, none⟩)) 7 120 rfl ?_ (fun w' hw' => by go_simp; first | done | rfl | omega | exact wrap_in (by omega) (by omega) | exact Int.tmod_eq_emod_of_nonneg (by omega) | exact Int.tdiv_eq_ediv_of_nonneg (by omega) | (simp; omega))
                  refine Hb.take (v := mv q.m q.A q.c) 8 121 rfl ?_ (fun w' hw' => by exact run_loadMr (rangeAt_below (show w4.drew.rangeAt _ _ _ from G4.out) hw' HBL.out) rfl)
                  refine Hb.call (f := 15) (args := #[mv q.m q.A q.c]) 9 122 rfl ?_ (run_callf Tryd.func15 (by kernel_rfl) (by kernel_rfl) (by simp only [List.map_toArray, List.map_cons, List.map_nil]; rfl))
                  refine (rBytes_c w4.drew q.m q.A q.c E4.out.drew).mono ?_
                  rintro y w5 ⟨A5, c5, rfl, o5, b5⟩
                  have R5 := Lib.hid (Rd.of_own o5)
                  have B5 := Lib.hid (show Below w4.heap.size w4 w5 from (Below.refl _ _).drew.trans b5)
                  have S5 := Lib.hid (S4.out.past B5.out)
                  have M5 := Lib.hid (M4.out.past B5.out)
                  have G5 := Lib.hid (rangeAt_below G4.out B5.out HBL.out)
                  have HBL5 := Lib.hid (Nat.lt_of_lt_of_le HBL.out b5.size)
                  refine Hb.back b5 b5.size ?_
                  refine Hb.take (v := .string (strOfNums (PMsg.enc q.m))) 10 123 rfl ?_ (fun w' hw' => by exact run_toStrOp 5 rfl (R5.out.below hw') Tryd.underlying35 Tryd.underlying5 Tryd.underlying9)
                  refine Hb.take (v := .bool false) 11 124 rfl ?_ (fun w' hw' => by exact run_strNe rfl rfl (by simp))
                  refine Hb.take (v := .bool false) 12 125 rfl ?_ (fun _ _ => rfl)
                  refine Hb.take (v := .bool false) 13 126 rfl ?_ (fun _ _ => rfl)
                  refine Hb.take (v := .pointer (some ⟨g, 0, none⟩)) 14 127 rfl ?_ (fun _ _ => rfl)
                  refine Hb.take (v := .int .i64 (j : Nat)) 15 128 rfl ?_ (fun _ _ => rfl)
                  refine Hb.take (v := .slice (some ⟨b, o, none⟩) Q.length c) 17 130 rfl ?_ (fun _ _ => rfl)
                  refine Hb.take (v := .int .i64 (j : Nat)) 18 131 rfl ?_ (fun _ _ => rfl)
                  refine Hb.take (v := .pointer (some ⟨b, o + j * 13, none⟩)) 19 132 rfl ?_ (fun w' hw' => by go_simp; first | done | rfl | omega | exact wrap_in (by omega) (by omega) | exact Int.tmod_eq_emod_of_nonneg (by omega) | exact Int.tdiv_eq_ediv_of_nonneg (by omega) | (simp; omega))
                  refine Hb.take (v := .pointer (some ⟨b, o + j * 13 + 2, none⟩)) 20 133 rfl ?_ (fun w' hw' => by go_simp; first | done | rfl | omega | exact wrap_in (by omega) (by omega) | exact Int.tmod_eq_emod_of_nonneg (by omega) | exact Int.tdiv_eq_ediv_of_nonneg (by omega) | (simp; omega))
                  refine Hb.take (v := .int .i64 q.m.dst) 21 134 rfl ?_ (fun w' hw' => by have hc := rangeAt_below G5.out hw' HBL5.out 2 _ rfl; go_simp)
                  refine Hb.call (f := 18) (args := #[.pointer (some ⟨g, 0, none⟩), .int .i64 (j : Nat)]) 16 129 rfl ?_ (run_callf Tryd.func18 (by kernel_rfl) (by kernel_rfl) (by simp only [List.map_toArray, List.map_cons, List.map_nil]; rfl))
                  refine (S5.out.to_in (i := j) (m := q.m) HXM.out).mono ?_
                  rintro y w6 ⟨rfl, rfl⟩
                  refine Hb.back (Below.refl _ _) (Nat.le_refl _) ?_
                  refine Hb.take (v := .bool false) 22 135 rfl ?_ (fun w' hw' => by go_simp; first | done | rfl | omega | exact wrap_in (by omega) (by omega) | exact Int.tmod_eq_emod_of_nonneg (by omega) | exact Int.tdiv_eq_ediv_of_nonneg (by omega) | (simp; omega))
                  refine Hb.take (v := .bool false) 23 136 rfl ?_ (fun _ _ => rfl)
                  refine Hb.done ?_
-- END
                  clear R4 S4 M4 G4 E4 HBL B5 R5 G5 HBL5
                  go_wp2_with fail
                  go_roundw
                  case rel => exact ⟨j + 1, by go_num, by omega, M5, S5⟩
                  case measure => simp [intOf]; omega
                · obtain rfl : j = Q.length := by omega
                  go_wp2_with fail
                  refine (SS.out.len).mono ?_
                  rw [List.length_map]
                  rintro y w4 ⟨rfl, rfl⟩
                  go_wp2_with fail
                  go_ret
                  exact ⟨rfl, SS.out.bel⟩
          · have h2' : ¬ (i : Int) < 40 := by omega
            go_wp2_with fail
            go_loopw [14] (fun s14 wr => ∃ j : Nat, s14 = .int .i64 j ∧ j ≤ Q.length ∧ Hid (Ms wr w.heap.size A c Q) ∧ Hid (Sn w wr g (Q.map Mp.m))) (fun s14 _ => Q.length - (intOf s14).toNat)
            case atStart => exact ⟨0, rfl, by omega, MM, SS⟩
            case round =>
              clear MM SS
              obtain ⟨j, rfl, hj, MM, SS⟩ := hrel
              by_cases hlt : j < Q.length
              · obtain ⟨q, hq⟩ : ∃ q, Q[j]? = some q := ⟨_, List.getElem?_eq_getElem hlt⟩
                have HXM := Lib.hid (show (Q.map Mp.m)[j]? = some q.m by rw [List.getElem?_map, hq]; rfl)
                have HQ := Lib.hid hq
                clear hq
                go_wp2_with fail
                refine (SS.out.look_in HXM.out).mono ?_
                rintro y w4 ⟨A4, c4, rfl, o4, b4⟩
                have R4 := Lib.hid o4.rd
                have S4 := Lib.hid (SS.out.past b4)
                have M4 := Lib.hid (MM.out.past b4)
                clear o4 b4 SS MM
                obtain ⟨b, o, q', rfl, hbl, hq', -, hg4, he4⟩ := M4.out.at_ hlt
                obtain rfl : q = q' := Option.some.inj (HQ.out.symm.trans hq')
                have G4 := Lib.hid hg4
                have E4 := Lib.hid he4
                have HBL := Lib.hid hbl
                have hcap := M4.out.cap
                clear hq' hbl hg4 he4
                go_wp2_with fail
-- REGION curfew/curfewlaw18.NetOrder 26 norder26 16
                refine Hb.begin ?_
                refine Hb.take (v := .bool true) 0 113 rfl ?_ (fun _ _ => rfl)
                refine Hb.take (v := .bool false) 1 114 rfl ?_ (fun w' hw' => by go_simp; first | done | rfl | omega | exact wrap_in (by omega) (by omega) | exact Int.tmod_eq_emod_of_nonneg (by omega) | exact Int.tdiv_eq_ediv_of_nonneg (by omega) | (simp; omega))
                refine Hb.take (v := .bool false) 2 115 rfl ?_ (fun _ _ => rfl)
                refine Hb.take (v := .slice A4 (PMsg.enc q.m).length c4) 3 116 rfl ?_ (fun _ _ => rfl)
                refine Hb.take (v := .string (strOfNums (PMsg.enc q.m))) 4 117 rfl ?_ (fun w' hw' => by exact run_toStrOp 5 rfl (R4.out.drew.below hw') Tryd.underlying35 Tryd.underlying5 Tryd.underlying9)
                refine Hb.take (v := .slice (some ⟨b, o, none⟩) Q.length c) 5 118 rfl ?_ (fun _ _ => rfl)
                refine Hb.take (v := .int .i64 (j : Nat)) 6 119 rfl ?_ (fun _ _ => rfl)
                refine Hb.take (v := .pointer (some ⟨b, o + j * 13, none⟩)) 7 120 rfl ?_ (fun w' hw' => by go_simp; first | done | rfl | omega | exact wrap_in (by omega) (by omega) | exact Int.tmod_eq_emod_of_nonneg (by omega) | exact Int.tdiv_eq_ediv_of_nonneg (by omega) | (simp; omega))
                refine Hb.take (v := mv q.m q.A q.c) 8 121 rfl ?_ (fun w' hw' => by exact run_loadMr (rangeAt_below (show w4.drew.rangeAt _ _ _ from G4.out) hw' HBL.out) rfl)
                refine Hb.call (f := 15) (args := #[mv q.m q.A q.c]) 9 122 rfl ?_ (run_callf Tryd.func15 (by kernel_rfl) (by kernel_rfl) (by simp only [List.map_toArray, List.map_cons, List.map_nil]; rfl))
                refine (rBytes_c w4.drew q.m q.A q.c E4.out.drew).mono ?_
                rintro y w5 ⟨A5, c5, rfl, o5, b5⟩
                have R5 := Lib.hid (Rd.of_own o5)
                have B5 := Lib.hid (show Below w4.heap.size w4 w5 from (Below.refl _ _).drew.trans b5)
                have S5 := Lib.hid (S4.out.past B5.out)
                have M5 := Lib.hid (M4.out.past B5.out)
                have G5 := Lib.hid (rangeAt_below G4.out B5.out HBL.out)
                have HBL5 := Lib.hid (Nat.lt_of_lt_of_le HBL.out b5.size)
                refine Hb.back b5 b5.size ?_
                refine Hb.take (v := .string (strOfNums (PMsg.enc q.m))) 10 123 rfl ?_ (fun w' hw' => by exact run_toStrOp 5 rfl (R5.out.below hw') Tryd.underlying35 Tryd.underlying5 Tryd.underlying9)
                refine Hb.take (v := .bool false) 11 124 rfl ?_ (fun w' hw' => by exact run_strNe rfl rfl (by simp))
                refine Hb.take (v := .bool false) 12 125 rfl ?_ (fun _ _ => rfl)
                refine Hb.take (v := .bool false) 13 126 rfl ?_ (fun _ _ => rfl)
                refine Hb.take (v := .pointer (some ⟨g, 0, none⟩)) 14 127 rfl ?_ (fun _ _ => rfl)
                refine Hb.take (v := .int .i64 (j : Nat)) 15 128 rfl ?_ (fun _ _ => rfl)
                refine Hb.take (v := .slice (some ⟨b, o, none⟩) Q.length c) 17 130 rfl ?_ (fun _ _ => rfl)
                refine Hb.take (v := .int .i64 (j : Nat)) 18 131 rfl ?_ (fun _ _ => rfl)
                refine Hb.take (v := .pointer (some ⟨b, o + j * 13, none⟩)) 19 132 rfl ?_ (fun w' hw' => by go_simp; first | done | rfl | omega | exact wrap_in (by omega) (by omega) | exact Int.tmod_eq_emod_of_nonneg (by omega) | exact Int.tdiv_eq_ediv_of_nonneg (by omega) | (simp; omega))
                refine Hb.take (v := .pointer (some ⟨b, o + j * 13 + 2, none⟩)) 20 133 rfl ?_ (fun w' hw' => by go_simp; first | done | rfl | omega | exact wrap_in (by omega) (by omega) | exact Int.tmod_eq_emod_of_nonneg (by omega) | exact Int.tdiv_eq_ediv_of_nonneg (by omega) | (simp; omega))
                refine Hb.take (v := .int .i64 q.m.dst) 21 134 rfl ?_ (fun w' hw' => by have hc := rangeAt_below G5.out hw' HBL5.out 2 _ rfl; go_simp)
                refine Hb.call (f := 18) (args := #[.pointer (some ⟨g, 0, none⟩), .int .i64 (j : Nat)]) 16 129 rfl ?_ (run_callf Tryd.func18 (by kernel_rfl) (by kernel_rfl) (by simp only [List.map_toArray, List.map_cons, List.map_nil]; rfl))
                refine (S5.out.to_in (i := j) (m := q.m) HXM.out).mono ?_
                rintro y w6 ⟨rfl, rfl⟩
                refine Hb.back (Below.refl _ _) (Nat.le_refl _) ?_
                refine Hb.take (v := .bool false) 22 135 rfl ?_ (fun w' hw' => by go_simp; first | done | rfl | omega | exact wrap_in (by omega) (by omega) | exact Int.tmod_eq_emod_of_nonneg (by omega) | exact Int.tdiv_eq_ediv_of_nonneg (by omega) | (simp; omega))
                refine Hb.take (v := .bool false) 23 136 rfl ?_ (fun _ _ => rfl)
                refine Hb.done ?_
-- END
                clear R4 S4 M4 G4 E4 HBL B5 R5 G5 HBL5
                go_wp2_with fail
                go_roundw
                case rel => exact ⟨j + 1, by go_num, by omega, M5, S5⟩
                case measure => simp [intOf]; omega
              · obtain rfl : j = Q.length := by omega
                go_wp2_with fail
                refine (SS.out.len).mono ?_
                rw [List.length_map]
                rintro y w4 ⟨rfl, rfl⟩
                go_wp2_with fail
                go_ret
                exact ⟨rfl, SS.out.bel⟩
        · go_wp2_with fail
          go_loopw [14] (fun s14 wr => ∃ j : Nat, s14 = .int .i64 j ∧ j ≤ Q.length ∧ Hid (Ms wr w.heap.size A c Q) ∧ Hid (Sn w wr g (Q.map Mp.m))) (fun s14 _ => Q.length - (intOf s14).toNat)
          case atStart => exact ⟨0, rfl, by omega, MM, SS⟩
          case round =>
            clear MM SS
            obtain ⟨j, rfl, hj, MM, SS⟩ := hrel
            by_cases hlt : j < Q.length
            · obtain ⟨q, hq⟩ : ∃ q, Q[j]? = some q := ⟨_, List.getElem?_eq_getElem hlt⟩
              have HXM := Lib.hid (show (Q.map Mp.m)[j]? = some q.m by rw [List.getElem?_map, hq]; rfl)
              have HQ := Lib.hid hq
              clear hq
              go_wp2_with fail
              refine (SS.out.look_in HXM.out).mono ?_
              rintro y w4 ⟨A4, c4, rfl, o4, b4⟩
              have R4 := Lib.hid o4.rd
              have S4 := Lib.hid (SS.out.past b4)
              have M4 := Lib.hid (MM.out.past b4)
              clear o4 b4 SS MM
              obtain ⟨b, o, q', rfl, hbl, hq', -, hg4, he4⟩ := M4.out.at_ hlt
              obtain rfl : q = q' := Option.some.inj (HQ.out.symm.trans hq')
              have G4 := Lib.hid hg4
              have E4 := Lib.hid he4
              have HBL := Lib.hid hbl
              have hcap := M4.out.cap
              clear hq' hbl hg4 he4
              go_wp2_with fail
-- REGION curfew/curfewlaw18.NetOrder 26 norder26 14
              refine Hb.begin ?_
              refine Hb.take (v := .bool true) 0 113 rfl ?_ (fun _ _ => rfl)
              refine Hb.take (v := .bool false) 1 114 rfl ?_ (fun w' hw' => by go_simp; first | done | rfl | omega | exact wrap_in (by omega) (by omega) | exact Int.tmod_eq_emod_of_nonneg (by omega) | exact Int.tdiv_eq_ediv_of_nonneg (by omega) | (simp; omega))
              refine Hb.take (v := .bool false) 2 115 rfl ?_ (fun _ _ => rfl)
              refine Hb.take (v := .slice A4 (PMsg.enc q.m).length c4) 3 116 rfl ?_ (fun _ _ => rfl)
              refine Hb.take (v := .string (strOfNums (PMsg.enc q.m))) 4 117 rfl ?_ (fun w' hw' => by exact run_toStrOp 5 rfl (R4.out.drew.below hw') Tryd.underlying35 Tryd.underlying5 Tryd.underlying9)
              refine Hb.take (v := .slice (some ⟨b, o, none⟩) Q.length c) 5 118 rfl ?_ (fun _ _ => rfl)
              refine Hb.take (v := .int .i64 (j : Nat)) 6 119 rfl ?_ (fun _ _ => rfl)
              refine Hb.take (v := .pointer (some ⟨b, o + j * 13, none⟩)) 7 120 rfl ?_ (fun w' hw' => by go_simp; first | done | rfl | omega | exact wrap_in (by omega) (by omega) | exact Int.tmod_eq_emod_of_nonneg (by omega) | exact Int.tdiv_eq_ediv_of_nonneg (by omega) | (simp; omega))
              refine Hb.take (v := mv q.m q.A q.c) 8 121 rfl ?_ (fun w' hw' => by exact run_loadMr (rangeAt_below (show w4.drew.rangeAt _ _ _ from G4.out) hw' HBL.out) rfl)
              refine Hb.call (f := 15) (args := #[mv q.m q.A q.c]) 9 122 rfl ?_ (run_callf Tryd.func15 (by kernel_rfl) (by kernel_rfl) (by simp only [List.map_toArray, List.map_cons, List.map_nil]; rfl))
              refine (rBytes_c w4.drew q.m q.A q.c E4.out.drew).mono ?_
              rintro y w5 ⟨A5, c5, rfl, o5, b5⟩
              have R5 := Lib.hid (Rd.of_own o5)
              have B5 := Lib.hid (show Below w4.heap.size w4 w5 from (Below.refl _ _).drew.trans b5)
              have S5 := Lib.hid (S4.out.past B5.out)
              have M5 := Lib.hid (M4.out.past B5.out)
              have G5 := Lib.hid (rangeAt_below G4.out B5.out HBL.out)
              have HBL5 := Lib.hid (Nat.lt_of_lt_of_le HBL.out b5.size)
              refine Hb.back b5 b5.size ?_
              refine Hb.take (v := .string (strOfNums (PMsg.enc q.m))) 10 123 rfl ?_ (fun w' hw' => by exact run_toStrOp 5 rfl (R5.out.below hw') Tryd.underlying35 Tryd.underlying5 Tryd.underlying9)
              refine Hb.take (v := .bool false) 11 124 rfl ?_ (fun w' hw' => by exact run_strNe rfl rfl (by simp))
              refine Hb.take (v := .bool false) 12 125 rfl ?_ (fun _ _ => rfl)
              refine Hb.take (v := .bool false) 13 126 rfl ?_ (fun _ _ => rfl)
              refine Hb.take (v := .pointer (some ⟨g, 0, none⟩)) 14 127 rfl ?_ (fun _ _ => rfl)
              refine Hb.take (v := .int .i64 (j : Nat)) 15 128 rfl ?_ (fun _ _ => rfl)
              refine Hb.take (v := .slice (some ⟨b, o, none⟩) Q.length c) 17 130 rfl ?_ (fun _ _ => rfl)
              refine Hb.take (v := .int .i64 (j : Nat)) 18 131 rfl ?_ (fun _ _ => rfl)
              refine Hb.take (v := .pointer (some ⟨b, o + j * 13, none⟩)) 19 132 rfl ?_ (fun w' hw' => by go_simp; first | done | rfl | omega | exact wrap_in (by omega) (by omega) | exact Int.tmod_eq_emod_of_nonneg (by omega) | exact Int.tdiv_eq_ediv_of_nonneg (by omega) | (simp; omega))
              refine Hb.take (v := .pointer (some ⟨b, o + j * 13 + 2, none⟩)) 20 133 rfl ?_ (fun w' hw' => by go_simp; first | done | rfl | omega | exact wrap_in (by omega) (by omega) | exact Int.tmod_eq_emod_of_nonneg (by omega) | exact Int.tdiv_eq_ediv_of_nonneg (by omega) | (simp; omega))
              refine Hb.take (v := .int .i64 q.m.dst) 21 134 rfl ?_ (fun w' hw' => by have hc := rangeAt_below G5.out hw' HBL5.out 2 _ rfl; go_simp)
              refine Hb.call (f := 18) (args := #[.pointer (some ⟨g, 0, none⟩), .int .i64 (j : Nat)]) 16 129 rfl ?_ (run_callf Tryd.func18 (by kernel_rfl) (by kernel_rfl) (by simp only [List.map_toArray, List.map_cons, List.map_nil]; rfl))
              refine (S5.out.to_in (i := j) (m := q.m) HXM.out).mono ?_
              rintro y w6 ⟨rfl, rfl⟩
              refine Hb.back (Below.refl _ _) (Nat.le_refl _) ?_
              refine Hb.take (v := .bool false) 22 135 rfl ?_ (fun w' hw' => by go_simp; first | done | rfl | omega | exact wrap_in (by omega) (by omega) | exact Int.tmod_eq_emod_of_nonneg (by omega) | exact Int.tdiv_eq_ediv_of_nonneg (by omega) | (simp; omega))
              refine Hb.take (v := .bool false) 23 136 rfl ?_ (fun _ _ => rfl)
              refine Hb.done ?_
-- END
              clear R4 S4 M4 G4 E4 HBL B5 R5 G5 HBL5
              go_wp2_with fail
              go_roundw
              case rel => exact ⟨j + 1, by go_num, by omega, M5, S5⟩
              case measure => simp [intOf]; omega
            · obtain rfl : j = Q.length := by omega
              go_wp2_with fail
              refine (SS.out.len).mono ?_
              rw [List.length_map]
              rintro y w4 ⟨rfl, rfl⟩
              go_wp2_with fail
              go_ret
              exact ⟨rfl, SS.out.bel⟩
theorem NetOrder_w (w : World) (ht : Tab w) (n : Int) (TA : Option Addr) (tc tn : Nat) (tl : List Int) (hr : Rd w w.heap.size TA tc 1 tn (is tl)) (hf : ∀ x ∈ tl, -9223372036854775808 ≤ x ∧ x ≤ 9223372036854775807) :
    Calls Tryd.prog 7 #[.int .i64 n, .slice TA tn tc] w fun e w' => e = .returned (.bool true) ∧ Below w.heap.size w w' := by
  by_cases h : n < 0 ∨ 60 < n
  · exact NetOrder_bad w ht n TA tc tn h
  · obtain ⟨n', rfl⟩ := Int.eq_ofNat_of_zero_le (show 0 ≤ n by omega)
    exact NetOrder_good w ht n' (by omega) TA tc tn tl hr hf
end Go.Proofs.YtkckibcfanaglaaDoor

