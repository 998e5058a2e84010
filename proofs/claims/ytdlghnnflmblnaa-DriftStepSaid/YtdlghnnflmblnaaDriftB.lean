/- Contracts of package drift: inOrder, Fault, May. -/
import Derived.Test.YtdlghnnflmblnaaDriftA
namespace Go.Proofs.Ytdlghnnflmblnaa
open Go.RowKit
open PDrift (pr)

set_option maxHeartbeats 1000000 in
set_option maxRecDepth 100000 in
theorem inOrder_c (w : World) (B : Nat) (A : Option Addr) (c n : Nat) (l : List (Int × Int)) (h : Rd w B A c 2 n (tcs l)) :
    Calls Try.prog 16 #[.slice A n c] w fun e w' => e = .returned (.bool (decide (PDrift.Good l))) ∧ Below w.heap.size w w' := by
  have hln := h.plen
  have hcap := h.cap
  have hle := h.le
  unfold maxLen at hcap
  have R0 := Lib.hid h
  clear h
  go_enter Try.func16, Try.ntmps16
  go_wp2_with fail
  go_loopw [7] (fun s7 wr => ∃ i : Nat, i ≤ n ∧ s7 = .int .i64 i ∧ Hid (∀ k, k < i → PDrift.Ok1 l k) ∧ Hid (Rd wr B A c 2 n (tcs l)) ∧ Hid (Below w.heap.size w wr)) (fun s7 _ => n - (intOf s7).toNat)
  case atStart => exact ⟨0, by omega, rfl, Lib.hid (fun k hk => absurd hk (by omega)), R0, Lib.hid (Below.refl _ _)⟩
  case round =>
    clear R0
    obtain ⟨i, hi, rfl, HG, RT, BT⟩ := hrel
    by_cases hin : i < n
    · obtain ⟨b, o, hA, hb, c1, c2⟩ := RT.out.pair hin
      have HR := Lib.hid RT.out
      subst hA
      go_wp2_with fail
      have bel := Lib.hid ((Below.refl wr.heap.size wr).alloc (Nat.le_refl _) (.cells #[.int .i64 (pr l i).1, .int .i64 (pr l i).2] 31))
      have K0 := Lib.hid (Blk.new wr #[.int .i64 (pr l i).1, .int .i64 (pr l i).2] 31)
      have R1 := Lib.hid (HR.out.past bel.out)
      clear c1 c2 RT
      generalize wr.alloc (.cells #[.int .i64 (pr l i).1, .int .i64 (pr l i).2] 31) = w1 at *
      have hb1 : b < w1.heap.size := Nat.lt_of_lt_of_le hb bel.out.size
      obtain ⟨x, hx⟩ : ∃ x, x = (pr l i).1 := ⟨_, rfl⟩
      obtain ⟨y, hy⟩ : ∃ y, y = (pr l i).2 := ⟨_, rfl⟩
      rw [← hx, ← hy] at K0 ⊢
      have HP := Lib.hid (show pr l i = (x, y) by rw [hx, hy])
      clear hx hy
      by_cases hr : PDrift.Rdg (x, y)
      · have HD := Lib.hid (decide_eq_true hr)
        have HRd := Lib.hid hr; clear hr
        rcases i with _ | j
        · -- the first
-- REGION curfew/drift.inOrder 4 inordb 10
          refine Hb.begin ?_
          refine Hb.take (v := .agg #[.int .i64 x, .int .i64 y]) 0 12 rfl ?_ (fun w' hw' => by exact run_load2 Try.underlying31 rfl (by kernel_rfl) rfl ((hw'.cell (p := ⟨wr.heap.size, 0, none⟩) K0.out.lt).trans (K0.out.cell (i := 0) rfl)) ((hw'.cell (p := ⟨wr.heap.size, 0 + 1, none⟩) K0.out.lt).trans (K0.out.cell (i := 1) rfl)))
          refine Hb.call (f := 20) (args := #[.agg #[.int .i64 x, .int .i64 y]]) 1 13 rfl ?_ (run_callf Try.func20 (by kernel_rfl) (by kernel_rfl) (by simp only [List.map_toArray, List.map_cons, List.map_nil]; rfl))
          refine (dRdg_c w1.drew (x, y)).mono ?_
          rw [HD.out]
          rintro e w2 ⟨rfl, b2⟩
          have BF := Lib.hid (bel.out.drew.trans (b2.mono bel.out.size))
          have K2 := Lib.hid (K0.out.drew.past b2)
          refine Hb.back b2 (Nat.le_refl _) ?_
          refine Hb.take (v := .bool false) 2 14 rfl ?_ (fun w' hw' => by go_simp; first | done | rfl | omega | exact wrap_in (by omega) (by omega) | exact Int.tmod_eq_emod_of_nonneg (by omega) | exact Int.tdiv_eq_ediv_of_nonneg (by omega) | (simp; omega))
          refine Hb.take (v := .bool false) 3 15 rfl ?_ (fun _ _ => rfl)
          refine Hb.take (v := .int .i64 (0 : Int)) 4 16 rfl ?_ (fun _ _ => rfl)
          refine Hb.take (v := .bool false) 5 17 rfl ?_ (fun w' hw' => by go_simp; first | done | rfl | omega | exact wrap_in (by omega) (by omega) | exact Int.tmod_eq_emod_of_nonneg (by omega) | exact Int.tdiv_eq_ediv_of_nonneg (by omega) | (simp; omega))
          refine Hb.take (v := .bool false) 6 18 rfl ?_ (fun _ _ => rfl)
          refine Hb.pass 7 19 rfl ?_
          refine Hb.pass 8 20 rfl ?_
          refine Hb.pass 9 21 rfl ?_
          refine Hb.pass 10 22 rfl ?_
          refine Hb.pass 11 23 rfl ?_
          refine Hb.pass 12 24 rfl ?_
          refine Hb.pass 13 25 rfl ?_
          refine Hb.pass 14 26 rfl ?_
          refine Hb.pass 15 27 rfl ?_
          refine Hb.take (v := .bool false) 16 28 rfl ?_ (fun _ _ => rfl)
          refine Hb.take (v := .bool false) 17 29 rfl ?_ (fun _ _ => rfl)
          refine Hb.done ?_
-- END
          go_wp2_with fail
          go_roundw
          case rel => exact ⟨1, by omega, by go_num, Lib.hid (fun k hk => by
            obtain rfl : k = 0 := by omega
            exact ⟨by rw [HP.out]; exact HRd.out, fun h => absurd h (by omega)⟩), Lib.hid (R1.out.drew.past b2), Lib.hid (BT.out.trans (BF.out.mono BT.out.size))⟩
          case measure => simp [intOf]; omega
        · obtain ⟨b', o', hA', _, d1, _⟩ := R1.out.pair (i := j) (by omega)
          obtain ⟨rfl, rfl⟩ : b = b' ∧ o = o' := by simpa using hA'
          obtain ⟨x0, hx0⟩ : ∃ x0, x0 = (pr l j).1 := ⟨_, rfl⟩
          rw [← hx0] at d1
          have CP := Lib.hid d1
          have HX0 := Lib.hid hx0
          clear d1 hx0
          by_cases hlt : x < x0
          · have e1 : decide (x < x0) = true := decide_eq_true hlt
-- REGION curfew/drift.inOrder 4 inordc 12
            refine Hb.begin ?_
            refine Hb.take (v := .agg #[.int .i64 x, .int .i64 y]) 0 12 rfl ?_ (fun w' hw' => by exact run_load2 Try.underlying31 rfl (by kernel_rfl) rfl ((hw'.cell (p := ⟨wr.heap.size, 0, none⟩) K0.out.lt).trans (K0.out.cell (i := 0) rfl)) ((hw'.cell (p := ⟨wr.heap.size, 0 + 1, none⟩) K0.out.lt).trans (K0.out.cell (i := 1) rfl)))
            refine Hb.call (f := 20) (args := #[.agg #[.int .i64 x, .int .i64 y]]) 1 13 rfl ?_ (run_callf Try.func20 (by kernel_rfl) (by kernel_rfl) (by simp only [List.map_toArray, List.map_cons, List.map_nil]; rfl))
            refine (dRdg_c w1.drew (x, y)).mono ?_
            rw [HD.out]
            rintro e w2 ⟨rfl, b2⟩
            have BF := Lib.hid (bel.out.drew.trans (b2.mono bel.out.size))
            have K2 := Lib.hid (K0.out.drew.past b2)
            refine Hb.back b2 (Nat.le_refl _) ?_
            refine Hb.take (v := .bool false) 2 14 rfl ?_ (fun w' hw' => by go_simp; first | done | rfl | omega | exact wrap_in (by omega) (by omega) | exact Int.tmod_eq_emod_of_nonneg (by omega) | exact Int.tdiv_eq_ediv_of_nonneg (by omega) | (simp; omega))
            refine Hb.take (v := .bool false) 3 15 rfl ?_ (fun _ _ => rfl)
            refine Hb.take (v := .int .i64 ((j + 1 : Nat) : Int)) 4 16 rfl ?_ (fun _ _ => rfl)
            refine Hb.take (v := .bool true) 5 17 rfl ?_ (fun w' hw' => by go_simp; first | done | rfl | omega | exact wrap_in (by omega) (by omega) | exact Int.tmod_eq_emod_of_nonneg (by omega) | exact Int.tdiv_eq_ediv_of_nonneg (by omega) | (simp; omega))
            refine Hb.take (v := .bool true) 6 18 rfl ?_ (fun _ _ => rfl)
            refine Hb.take (v := .pointer (some ⟨wr.heap.size, 0, none⟩)) 7 19 rfl ?_ (fun w' hw' => by go_simp; first | done | rfl | omega | exact wrap_in (by omega) (by omega) | exact Int.tmod_eq_emod_of_nonneg (by omega) | exact Int.tdiv_eq_ediv_of_nonneg (by omega) | (simp; omega))
            refine Hb.take (v := .int .i64 x) 8 20 rfl ?_ (fun w' hw' => by have cc := (hw'.cell (p := ⟨wr.heap.size, 0, none⟩) K0.out.lt).trans (K2.out.cell (i := 0) rfl); go_simp)
            refine Hb.take (v := .slice (some ⟨b, o, none⟩) n c) 9 21 rfl ?_ (fun _ _ => rfl)
            refine Hb.take (v := .int .i64 ((j + 1 : Nat) : Int)) 10 22 rfl ?_ (fun _ _ => rfl)
            refine Hb.take (v := .int .i64 (j : Int)) 11 23 rfl ?_ (fun w' hw' => by go_simp; first | done | rfl | omega | exact wrap_in (by omega) (by omega) | exact Int.tmod_eq_emod_of_nonneg (by omega) | exact Int.tdiv_eq_ediv_of_nonneg (by omega) | (simp; omega))
            refine Hb.take (v := .pointer (some ⟨b, o + j * 2, none⟩)) 12 24 rfl ?_ (fun w' hw' => by go_simp; first | done | rfl | omega | exact wrap_in (by omega) (by omega) | exact Int.tmod_eq_emod_of_nonneg (by omega) | exact Int.tdiv_eq_ediv_of_nonneg (by omega) | (simp; omega))
            refine Hb.take (v := .pointer (some ⟨b, o + j * 2, none⟩)) 13 25 rfl ?_ (fun w' hw' => by go_simp; first | done | rfl | omega | exact wrap_in (by omega) (by omega) | exact Int.tmod_eq_emod_of_nonneg (by omega) | exact Int.tdiv_eq_ediv_of_nonneg (by omega) | (simp; omega))
            refine Hb.take (v := .int .i64 x0) 14 26 rfl ?_ (fun w' hw' => by have cc := (hw'.cell (p := ⟨b, o + j * 2, none⟩) hb1).trans ((b2.cell (p := ⟨b, o + j * 2, none⟩) hb1).trans CP.out); go_simp)
            refine Hb.take (v := .bool true) 15 27 rfl ?_ (fun w' hw' => by go_simp; first | done | rfl | omega | exact wrap_in (by omega) (by omega) | exact Int.tmod_eq_emod_of_nonneg (by omega) | exact Int.tdiv_eq_ediv_of_nonneg (by omega) | (simp; omega))
            refine Hb.take (v := .bool true) 16 28 rfl ?_ (fun _ _ => rfl)
            refine Hb.take (v := .bool true) 17 29 rfl ?_ (fun _ _ => rfl)
            refine Hb.done ?_
-- END
            go_wp2_with fail
            go_ret
            exact ⟨by rw [show decide (PDrift.Good l) = false from decide_eq_false (fun h => by
              have := (h (j + 1) (by omega)).2 (by omega)
              rw [HP.out, show j + 1 - 1 = j from rfl, ← HX0.out] at this
              simp only at this; omega)]; rfl, BT.out.trans (BF.out.mono BT.out.size)⟩
          · have e1 : decide (x < x0) = false := decide_eq_false hlt
-- REGION curfew/drift.inOrder 4 inordd 12
            refine Hb.begin ?_
            refine Hb.take (v := .agg #[.int .i64 x, .int .i64 y]) 0 12 rfl ?_ (fun w' hw' => by exact run_load2 Try.underlying31 rfl (by kernel_rfl) rfl ((hw'.cell (p := ⟨wr.heap.size, 0, none⟩) K0.out.lt).trans (K0.out.cell (i := 0) rfl)) ((hw'.cell (p := ⟨wr.heap.size, 0 + 1, none⟩) K0.out.lt).trans (K0.out.cell (i := 1) rfl)))
            refine Hb.call (f := 20) (args := #[.agg #[.int .i64 x, .int .i64 y]]) 1 13 rfl ?_ (run_callf Try.func20 (by kernel_rfl) (by kernel_rfl) (by simp only [List.map_toArray, List.map_cons, List.map_nil]; rfl))
            refine (dRdg_c w1.drew (x, y)).mono ?_
            rw [HD.out]
            rintro e w2 ⟨rfl, b2⟩
            have BF := Lib.hid (bel.out.drew.trans (b2.mono bel.out.size))
            have K2 := Lib.hid (K0.out.drew.past b2)
            refine Hb.back b2 (Nat.le_refl _) ?_
            refine Hb.take (v := .bool false) 2 14 rfl ?_ (fun w' hw' => by go_simp; first | done | rfl | omega | exact wrap_in (by omega) (by omega) | exact Int.tmod_eq_emod_of_nonneg (by omega) | exact Int.tdiv_eq_ediv_of_nonneg (by omega) | (simp; omega))
            refine Hb.take (v := .bool false) 3 15 rfl ?_ (fun _ _ => rfl)
            refine Hb.take (v := .int .i64 ((j + 1 : Nat) : Int)) 4 16 rfl ?_ (fun _ _ => rfl)
            refine Hb.take (v := .bool true) 5 17 rfl ?_ (fun w' hw' => by go_simp; first | done | rfl | omega | exact wrap_in (by omega) (by omega) | exact Int.tmod_eq_emod_of_nonneg (by omega) | exact Int.tdiv_eq_ediv_of_nonneg (by omega) | (simp; omega))
            refine Hb.take (v := .bool true) 6 18 rfl ?_ (fun _ _ => rfl)
            refine Hb.take (v := .pointer (some ⟨wr.heap.size, 0, none⟩)) 7 19 rfl ?_ (fun w' hw' => by go_simp; first | done | rfl | omega | exact wrap_in (by omega) (by omega) | exact Int.tmod_eq_emod_of_nonneg (by omega) | exact Int.tdiv_eq_ediv_of_nonneg (by omega) | (simp; omega))
            refine Hb.take (v := .int .i64 x) 8 20 rfl ?_ (fun w' hw' => by have cc := (hw'.cell (p := ⟨wr.heap.size, 0, none⟩) K0.out.lt).trans (K2.out.cell (i := 0) rfl); go_simp)
            refine Hb.take (v := .slice (some ⟨b, o, none⟩) n c) 9 21 rfl ?_ (fun _ _ => rfl)
            refine Hb.take (v := .int .i64 ((j + 1 : Nat) : Int)) 10 22 rfl ?_ (fun _ _ => rfl)
            refine Hb.take (v := .int .i64 (j : Int)) 11 23 rfl ?_ (fun w' hw' => by go_simp; first | done | rfl | omega | exact wrap_in (by omega) (by omega) | exact Int.tmod_eq_emod_of_nonneg (by omega) | exact Int.tdiv_eq_ediv_of_nonneg (by omega) | (simp; omega))
            refine Hb.take (v := .pointer (some ⟨b, o + j * 2, none⟩)) 12 24 rfl ?_ (fun w' hw' => by go_simp; first | done | rfl | omega | exact wrap_in (by omega) (by omega) | exact Int.tmod_eq_emod_of_nonneg (by omega) | exact Int.tdiv_eq_ediv_of_nonneg (by omega) | (simp; omega))
            refine Hb.take (v := .pointer (some ⟨b, o + j * 2, none⟩)) 13 25 rfl ?_ (fun w' hw' => by go_simp; first | done | rfl | omega | exact wrap_in (by omega) (by omega) | exact Int.tmod_eq_emod_of_nonneg (by omega) | exact Int.tdiv_eq_ediv_of_nonneg (by omega) | (simp; omega))
            refine Hb.take (v := .int .i64 x0) 14 26 rfl ?_ (fun w' hw' => by have cc := (hw'.cell (p := ⟨b, o + j * 2, none⟩) hb1).trans ((b2.cell (p := ⟨b, o + j * 2, none⟩) hb1).trans CP.out); go_simp)
            refine Hb.take (v := .bool false) 15 27 rfl ?_ (fun w' hw' => by go_simp; first | done | rfl | omega | exact wrap_in (by omega) (by omega) | exact Int.tmod_eq_emod_of_nonneg (by omega) | exact Int.tdiv_eq_ediv_of_nonneg (by omega) | (simp; omega))
            refine Hb.take (v := .bool false) 16 28 rfl ?_ (fun _ _ => rfl)
            refine Hb.take (v := .bool false) 17 29 rfl ?_ (fun _ _ => rfl)
            refine Hb.done ?_
-- END
            go_wp2_with fail
            go_roundw
            case rel => exact ⟨j + 1 + 1, by omega, by go_num, Lib.hid (fun k hk => by
              by_cases hk' : k < j + 1
              · exact HG.out k hk'
              · obtain rfl : k = j + 1 := by omega
                exact ⟨by rw [HP.out]; exact HRd.out, fun _ => by rw [HP.out, show j + 1 - 1 = j from rfl, ← HX0.out]; simp only; omega⟩), Lib.hid (R1.out.drew.past b2), Lib.hid (BT.out.trans (BF.out.mono BT.out.size))⟩
            case measure => simp [intOf]; omega
      · have HD := Lib.hid (decide_eq_false hr)
        have HRd := Lib.hid hr; clear hr
-- REGION curfew/drift.inOrder 4 inorda 8
        refine Hb.begin ?_
        refine Hb.take (v := .agg #[.int .i64 x, .int .i64 y]) 0 12 rfl ?_ (fun w' hw' => by exact run_load2 Try.underlying31 rfl (by kernel_rfl) rfl ((hw'.cell (p := ⟨wr.heap.size, 0, none⟩) K0.out.lt).trans (K0.out.cell (i := 0) rfl)) ((hw'.cell (p := ⟨wr.heap.size, 0 + 1, none⟩) K0.out.lt).trans (K0.out.cell (i := 1) rfl)))
        refine Hb.call (f := 20) (args := #[.agg #[.int .i64 x, .int .i64 y]]) 1 13 rfl ?_ (run_callf Try.func20 (by kernel_rfl) (by kernel_rfl) (by simp only [List.map_toArray, List.map_cons, List.map_nil]; rfl))
        refine (dRdg_c w1.drew (x, y)).mono ?_
        rw [HD.out]
        rintro e w2 ⟨rfl, b2⟩
        have BF := Lib.hid (bel.out.drew.trans (b2.mono bel.out.size))
        have K2 := Lib.hid (K0.out.drew.past b2)
        refine Hb.back b2 (Nat.le_refl _) ?_
        refine Hb.take (v := .bool true) 2 14 rfl ?_ (fun w' hw' => by go_simp; first | done | rfl | omega | exact wrap_in (by omega) (by omega) | exact Int.tmod_eq_emod_of_nonneg (by omega) | exact Int.tdiv_eq_ediv_of_nonneg (by omega) | (simp; omega))
        refine Hb.take (v := .bool true) 3 15 rfl ?_ (fun _ _ => rfl)
        refine Hb.pass 4 16 rfl ?_
        refine Hb.pass 5 17 rfl ?_
        refine Hb.pass 6 18 rfl ?_
        refine Hb.pass 7 19 rfl ?_
        refine Hb.pass 8 20 rfl ?_
        refine Hb.pass 9 21 rfl ?_
        refine Hb.pass 10 22 rfl ?_
        refine Hb.pass 11 23 rfl ?_
        refine Hb.pass 12 24 rfl ?_
        refine Hb.pass 13 25 rfl ?_
        refine Hb.pass 14 26 rfl ?_
        refine Hb.pass 15 27 rfl ?_
        refine Hb.pass 16 28 rfl ?_
        refine Hb.take (v := .bool true) 17 29 rfl ?_ (fun _ _ => rfl)
        refine Hb.done ?_
-- END
        go_wp2_with fail
        go_ret
        exact ⟨by rw [show decide (PDrift.Good l) = false from decide_eq_false (fun h => by
          have := (h i (by omega)).1
          rw [HP.out] at this
          exact HRd.out this)]; rfl, BT.out.trans (BF.out.mono BT.out.size)⟩
    · go_wp2_with fail
      go_ret
      exact ⟨by rw [show decide (PDrift.Good l) = true from decide_eq_true (fun k hk => HG.out k (by omega))]; rfl, BT.out⟩
end Go.Proofs.Ytdlghnnflmblnaa
