/- Package join: Ask. -/
import Derived.Test.YtnpobagipgephaaJoin
import Derived.Test.YtnpobagipgephaaEntN
namespace Go.Proofs.Ytnpobagipgephaa
open Go.RowKit PJoin

/-- '[]api.Msg{m}' in a region that draws. -/
theorem wpList_buildMs {w : World} {ops : Array Oper} {rest : List Oper} {o : Oper} {a : Act} {Q : Exit → Act → World → Prop} (hgd : o.guard = none) (x : Operand) (ho : o.op = .buildSlice 23 1 #[(0, x)]) (m : Msg) (A : Option Addr) (c : Nat) (hx : a.eval x = mv m A c)
    (h : wpList Try.prog ops Q rest (a.put o.dst (.slice (some ⟨w.heap.size, 0, none⟩) 1 1)) (w.alloc (.cells (mcs m A c).toArray 30))) : wpList Try.prog ops Q (o :: rest) a w := by
  obtain ⟨i, hi0, hz, hk, -⟩ := info_parts nMsg_info
  refine wpList_buildSlice hgd 23 30 1 _ ho (mcs m A c).toArray i (mv zeroM none 0) Try.underlying23 hi0 hz (by rw [hk]; omega) (by rw [hk]; omega) ?_ h
  rw [hk]
  have hb : (Array.range (1 * 13)).map (fun x => (mv zeroM none 0).cells[x % (mv zeroM none 0).cells.size]!) = (mcs zeroM none 0).toArray := by kernel_rfl
  rw [hb]
  simp [Instr.fill, mv, mcs, Value.cells, hx]

/-- Those that are asked, among the first k. -/
def asksP (me boot : Int) (k : Nat) : List Mp := (asks me boot k).map fun m => ⟨m, none, 0⟩
theorem asksP_map (me boot : Int) (k : Nat) : (asksP me boot k).map Mp.m = asks me boot k := by simp [asksP, Function.comp_def]
theorem asksP_me {me boot : Int} {k : Nat} (h : (k : Int) + 1 = me) : asksP me boot (k + 1) = asksP me boot k := by unfold asksP; rw [asks_me h]
theorem asksP_not {me boot : Int} {k : Nat} (h : (k : Int) + 1 ≠ me) : asksP me boot (k + 1) = asksP me boot k ++ [⟨askM me boot (k + 1), none, 0⟩] := by unfold asksP; rw [asks_not h, List.map_append]; rfl
theorem asksP_le (me boot : Int) : ∀ k : Nat, (asksP me boot k).length ≤ k
  | 0 => Nat.le_refl _
  | k + 1 => by
    have := asksP_le me boot k
    by_cases h : (k : Int) + 1 = me
    · rw [asksP_me h]; omega
    · rw [asksP_not h, List.length_append, List.length_singleton]; omega

set_option maxHeartbeats 4000000 in
set_option maxRecDepth 100000 in
theorem jask_c (w : World) (g : Nat) (F : List Nat) (me boot pro : Int) (n : Nat) (hn : n ≤ 7) (o : Option Msg) (h : Jn w g F me n boot pro o) :
    Calls Try.prog 8 #[.pointer (some ⟨g, 0, none⟩)] w fun e w' => ∃ A c, e = .returned (.slice A (asksP me boot n).length c) ∧ Ms w' w.heap.size A c (asksP me boot n) ∧ Below w.heap.size w w' := by
  obtain ⟨m0, A0, c0, hB⟩ := h.blk
  have HG := Lib.hid hB.lt
  have JB := Lib.hid hB
  clear h hB
  go_enter Try.func8, Try.ntmps8
  go_wp2_with fail
  go_loopw [3, 4] (fun s3 s4 wr => ∃ (k : Nat) (A : Option Addr) (c : Nat) (Q : List Mp), s4 = .int .i64 ((k : Int) + 1) ∧ k ≤ n ∧ Q.length ≤ 7 ∧ s3 = .slice A Q.length c ∧ Hid (Q = asksP me boot k) ∧ Hid (Ms wr w.heap.size A c Q) ∧ Hid (Below w.heap.size w wr)) (fun _ s4 _ => n + 1 - (intOf s4).toNat)
  case atStart => exact ⟨0, none, 0, [], rfl, by omega, by simp, rfl, Lib.hid rfl, Lib.hid (Ms.nil _ _), Lib.hid (Below.refl _ _)⟩
  case round =>
    obtain ⟨k, A, c, Q, rfl, hk, hq7, rfl, HQ, MM, BT⟩ := hrel
    obtain ⟨d0, d1, d2, -, -⟩ := (JB.out.below BT.out HG.out).join
    by_cases hlt : k < n
    · by_cases he : (k : Int) + 1 = me
      · have e1 : ((k : Int) + 1 == me) = true := by rw [he]; simp
        have e2 : ((k : Int) + 1 != me) = false := by rw [he]; simp
        have HE := Lib.hid (asksP_me (boot := boot) he)
        clear he
        go_wp2_with fail
        go_roundw
        case rel => exact ⟨k + 1, A, c, Q, by go_num, by omega, hq7, rfl, Lib.hid (by rw [HE.out]; exact HQ.out), MM, BT⟩
        case measure => simp [intOf]; omega
      · have e1 : ((k : Int) + 1 == me) = false := by simpa using he
        have e2 : ((k : Int) + 1 != me) = true := by simpa using he
        have HE := Lib.hid (asksP_not (boot := boot) he)
        have hl : (Q ++ [⟨askM me boot (k + 1), none, 0⟩] : List Mp).length ≤ 7 := by
          have := asksP_le me boot (k + 1)
          rw [asksP_not he, ← HQ.out] at this
          omega
        have HL := Lib.hid hl
        have hq6 : Q.length ≤ 6 := by rw [List.length_append, List.length_singleton] at hl; omega
        have MA := Lib.hid (MM.out.past ((Below.refl wr.heap.size wr).drew.alloc (Nat.le_refl _) (.cells (mcs (askM me boot ((k : Int) + 1)) none 0).toArray 30)))
        have RN := Lib.hid (Rd.new wr.drew (mcs (askM me boot ((k : Int) + 1)) none 0).toArray 30 13 1 rfl (by unfold maxLen; omega))
        have HSZ := Lib.hid (show w.heap.size ≤ (wr.drew.alloc (.cells (mcs (askM me boot ((k : Int) + 1)) none 0).toArray 30)).heap.size from Nat.le_trans BT.out.size (by simp))
        have HFIT := Lib.hid (show (-9223372036854775808 : Int) ≤ (askM me boot ((k : Int) + 1)).mem ∧ (askM me boot ((k : Int) + 1)).mem ≤ 9223372036854775807 from (show (-9223372036854775808 : Int) ≤ 0 ∧ (0 : Int) ≤ 9223372036854775807 by decide))
        clear he hl
        go_wp2_with fail
        clear d0 d1 d2
-- REGION (*curfew/join.Join).Ask 8 jask8 8
        refine Hb.beginB (B := w.heap.size) ?_
        refine Hb.take 0 21 rfl ?_ (fun w' hw' => by go_simp; first | done | rfl)
        refine Hb.take (v := .pointer (some ⟨g, 0, none⟩)) 1 22 rfl ?_ (fun _ _ => rfl)
        refine Hb.take (v := .pointer (some ⟨g, 0, none⟩)) 2 23 rfl ?_ (fun w' hw' => by go_simp; first | done | rfl | omega | exact wrap_in (by omega) (by omega) | exact Int.tmod_eq_emod_of_nonneg (by omega) | exact Int.tdiv_eq_ediv_of_nonneg (by omega) | (simp; omega))
        refine Hb.take (v := .pointer (some ⟨g, 0, none⟩)) 3 24 rfl ?_ (fun w' hw' => by go_simp; first | done | rfl | omega | exact wrap_in (by omega) (by omega) | exact Int.tmod_eq_emod_of_nonneg (by omega) | exact Int.tdiv_eq_ediv_of_nonneg (by omega) | (simp; omega))
        refine Hb.take (v := .int .i64 me) 4 25 rfl ?_ (fun w' hw' => by exact run_loadJi ((JB.out.below (BT.out.drew.trans hw') HG.out).cell (i := 0) rfl) rfl)
        refine Hb.take (v := .int .i64 ((k : Int) + 1)) 5 26 rfl ?_ (fun _ _ => rfl)
        refine Hb.take (v := .pointer (some ⟨g, 0, none⟩)) 6 27 rfl ?_ (fun _ _ => rfl)
        refine Hb.take (v := .pointer (some ⟨g, 0, none⟩)) 7 28 rfl ?_ (fun w' hw' => by go_simp; first | done | rfl | omega | exact wrap_in (by omega) (by omega) | exact Int.tmod_eq_emod_of_nonneg (by omega) | exact Int.tdiv_eq_ediv_of_nonneg (by omega) | (simp; omega))
        refine Hb.take (v := .pointer (some ⟨g, 2, none⟩)) 8 29 rfl ?_ (fun w' hw' => by go_simp; first | done | rfl | omega | exact wrap_in (by omega) (by omega) | exact Int.tmod_eq_emod_of_nonneg (by omega) | exact Int.tdiv_eq_ediv_of_nonneg (by omega) | (simp; omega))
        refine Hb.take (v := .int .i64 boot) 9 30 rfl ?_ (fun w' hw' => by exact run_loadI ((JB.out.below (BT.out.drew.trans hw') HG.out).cell (i := 2) rfl) rfl)
        refine Hb.take (v := .pointer (some ⟨g, 0, none⟩)) 10 31 rfl ?_ (fun _ _ => rfl)
        refine Hb.take (v := .pointer (some ⟨g, 0, none⟩)) 11 32 rfl ?_ (fun w' hw' => by go_simp; first | done | rfl | omega | exact wrap_in (by omega) (by omega) | exact Int.tmod_eq_emod_of_nonneg (by omega) | exact Int.tdiv_eq_ediv_of_nonneg (by omega) | (simp; omega))
        refine Hb.take (v := .pointer (some ⟨g, 2, none⟩)) 12 33 rfl ?_ (fun w' hw' => by go_simp; first | done | rfl | omega | exact wrap_in (by omega) (by omega) | exact Int.tmod_eq_emod_of_nonneg (by omega) | exact Int.tdiv_eq_ediv_of_nonneg (by omega) | (simp; omega))
        refine Hb.take (v := .int .i64 boot) 13 34 rfl ?_ (fun w' hw' => by exact run_loadI ((JB.out.below (BT.out.drew.trans hw') HG.out).cell (i := 2) rfl) rfl)
        refine Hb.take (v := .agg #[.int .i64 10, .int .i64 me, .int .i64 ((k : Int) + 1), .int .i64 boot, .int .i64 0, .int .i64 0, .int .i64 0, .int .i64 0, .slice none 0 0, .int .i64 0, .int .i64 boot, .int .i64 0, .bool false]) 14 35 rfl ?_ (fun w' hw' => by go_simp; first | done | rfl | omega | exact wrap_in (by omega) (by omega) | exact Int.tmod_eq_emod_of_nonneg (by omega) | exact Int.tdiv_eq_ediv_of_nonneg (by omega) | (simp; omega))
        refine Hb.only 15 (some 36) rfl ?_
        refine wpList_buildMs rfl (.tmp 35) rfl (askM me boot ((k : Int) + 1)) none 0 rfl ?_
        refine Hb.next (B' := w.heap.size) (((Below.refl _ _).alloc (Nat.le_refl _) _).mono BT.out.size) (Nat.le_refl _) ?_
        refine Hb.only 16 (some 37) rfl ?_
        refine wpList_app2 rfl (.tmp 21) (.tmp 36) 23 rfl w.heap.size 30 _ 13 120 Try.underlying23 nMsg_info rfl (by omega) A Q.length c (mgs Q) rfl MA.out.row _ _ 1 1 (mgc ⟨askM me boot ((k : Int) + 1), none, 0⟩) rfl RN.out (mgc_oneCell _) (by unfold maxLen; omega) (by omega) HSZ.out ?_
        intro A2 c2 w3 O3 g3 h3
        have M3 := Lib.hid (MA.out.app (q := ⟨askM me boot ((k : Int) + 1), none, 0⟩) g3 O3 (Ow.nil _ _ _ _) HFIT.out)
        have T3 := Lib.hid ((Touch.of_bk g3).below (B := w.heap.size) (fun s hs => MA.out.row.low s (mem_bl.1 hs)) HSZ.out)
        clear O3 g3 h3
        refine Hb.next (B' := w.heap.size) T3.out (Nat.le_refl _) ?_
        refine Hb.take (v := .slice A2 (Q.length + 1) c2) 17 3 rfl ?_ (fun _ _ => rfl)
        refine Hb.done ?_
-- END
        have BT2 := Lib.hid (((BT.out.drew.trans (((Below.refl _ _).alloc (Nat.le_refl _) _).mono BT.out.size)).trans T3.out))
        go_wp2_with fail
        go_roundw
        case rel => exact ⟨k + 1, A2, c2, Q ++ [⟨askM me boot (k + 1), none, 0⟩], by go_num, by omega, HL.out, by simp, Lib.hid (by rw [HE.out, HQ.out]), M3, BT2⟩
        case measure => simp [intOf]; omega
    · obtain rfl : k = n := by omega
      go_wp2_with fail
      go_ret
      refine ⟨A, c, ?_, ?_, BT.out⟩
      · rw [← HQ.out]; rfl
      · rw [← HQ.out]; exact MM.out
end Go.Proofs.Ytnpobagipgephaa
