/- Contracts: the statements' 'of'; Bounds; begun. -/
import Derived.Test.YtdlghnnflmblnaaDriftD
namespace Go.Proofs.Ytdlghnnflmblnaa
open Go.RowKit
open PDrift (pr)

theorem rr_info : (Try.prog.info? 38).map (fun i => (i.zero, i.size, i.bytes)) = some (some (.agg #[.int .i64 0, .int .i64 0]), 2, 16) := by kernel_rfl
theorem dr_info : (Try.prog.info? 31).map (fun i => (i.zero, i.size, i.bytes)) = some (some (.agg #[.int .i64 0, .int .i64 0]), 2, 16) := by kernel_rfl

set_option maxHeartbeats 1000000 in
set_option maxRecDepth 100000 in
theorem of_c (w : World) (A : Option Addr) (c n : Nat) (l : List (Int × Int)) (h : Rd w w.heap.size A c 2 n (tcs l)) (hn : n ≤ 1000) :
    Calls Try.prog 9 #[.slice A n c] w fun e w' => ∃ A' c', e = .returned (.slice A' n c') ∧ Rd w' w'.heap.size A' c' 2 n (tcs l) ∧ Below w.heap.size w w' := by
  have hln := h.plen
  have R0 := Lib.hid h
  have tz : ∀ w, Sem.run Try.prog (zeroValue 38) w = .ok (.agg #[.int .i64 0, .int .i64 0]) w := Try.zeroValue38
  clear h
  go_enter Try.func9, Try.ntmps9
  go_wp2_with fail
  go_loopw [3, 4] (fun s3 s4 wr => ∃ (i : Nat) (A1 : Option Addr) (c1 : Nat), i ≤ n ∧ s3 = .slice A1 i c1 ∧ s4 = .int .i64 i ∧ Hid (wr.ownsRow w.heap.size 38 2 (.slice A1 i c1) i (tcs (l.take i))) ∧ Hid (Rd wr w.heap.size A c 2 n (tcs l)) ∧ Hid (Below w.heap.size w wr)) (fun _ s4 _ => n - (intOf s4).toNat)
  case atStart => exact ⟨0, none, 0, by omega, rfl, rfl, Lib.hid (World.ownsRow_nil _ _ _ _), R0, Lib.hid (Below.refl _ _)⟩
  case round =>
    clear R0
    obtain ⟨i, A1, c1, hi, rfl, rfl, OW, RT, BT⟩ := hrel
    by_cases hin : i < n
    · obtain ⟨b, o, hA, hbB, k1, k2⟩ := RT.out.pairB hin
      have hs := BT.out.size
      subst hA
      obtain ⟨x, hx⟩ : ∃ x, x = (pr l i).1 := ⟨_, rfl⟩
      obtain ⟨y, hy⟩ : ∃ y, y = (pr l i).2 := ⟨_, rfl⟩
      rw [← hx] at k1
      rw [← hy] at k2
      have HP := Lib.hid (show pr l i = (x, y) by rw [hx, hy])
      have C1 := Lib.hid k1
      have C2 := Lib.hid k2
      clear hx hy k1 k2
      go_wp2_with fail
-- REGION curfew/curfewlaw8.of 5 of5 6
      refine Hb.beginB (B := w.heap.size) ?_
      refine Hb.take 0 11 rfl ?_ (fun w' hw' => by go_simp; first | done | rfl)
      refine Hb.take (v := .slice (some ⟨b, o, none⟩) n c) 1 12 rfl ?_ (fun _ _ => rfl)
      refine Hb.take (v := .int .i64 (i : Int)) 2 13 rfl ?_ (fun _ _ => rfl)
      refine Hb.take (v := .pointer (some ⟨b, o + i * 2, none⟩)) 3 14 rfl ?_ (fun w' hw' => by go_simp; first | done | rfl | omega | exact wrap_in (by omega) (by omega) | exact Int.tmod_eq_emod_of_nonneg (by omega) | exact Int.tdiv_eq_ediv_of_nonneg (by omega) | (simp; omega))
      refine Hb.take (v := .pointer (some ⟨b, o + i * 2, none⟩)) 4 15 rfl ?_ (fun w' hw' => by go_simp; first | done | rfl | omega | exact wrap_in (by omega) (by omega) | exact Int.tmod_eq_emod_of_nonneg (by omega) | exact Int.tdiv_eq_ediv_of_nonneg (by omega) | (simp; omega))
      refine Hb.take (v := .int .i64 x) 5 16 rfl ?_ (fun w' hw' => by have cc := (hw'.cell (p := ⟨b, o + i * 2, none⟩) hbB).trans C1.out; go_simp)
      refine Hb.take (v := .slice (some ⟨b, o, none⟩) n c) 6 17 rfl ?_ (fun _ _ => rfl)
      refine Hb.take (v := .int .i64 (i : Int)) 7 18 rfl ?_ (fun _ _ => rfl)
      refine Hb.take (v := .pointer (some ⟨b, o + i * 2, none⟩)) 8 19 rfl ?_ (fun w' hw' => by go_simp; first | done | rfl | omega | exact wrap_in (by omega) (by omega) | exact Int.tmod_eq_emod_of_nonneg (by omega) | exact Int.tdiv_eq_ediv_of_nonneg (by omega) | (simp; omega))
      refine Hb.take (v := .pointer (some ⟨b, o + i * 2 + 1, none⟩)) 9 20 rfl ?_ (fun w' hw' => by go_simp; first | done | rfl | omega | exact wrap_in (by omega) (by omega) | exact Int.tmod_eq_emod_of_nonneg (by omega) | exact Int.tdiv_eq_ediv_of_nonneg (by omega) | (simp; omega))
      refine Hb.take (v := .int .i64 y) 10 21 rfl ?_ (fun w' hw' => by have cc := (hw'.cell (p := ⟨b, o + i * 2 + 1, none⟩) hbB).trans C2.out; go_simp)
      refine Hb.take (v := .agg #[.int .i64 x, .int .i64 y]) 11 22 rfl ?_ (fun w' hw' => by go_simp; first | done | rfl | omega | exact wrap_in (by omega) (by omega) | exact Int.tmod_eq_emod_of_nonneg (by omega) | exact Int.tdiv_eq_ediv_of_nonneg (by omega) | (simp; omega))
      refine Hb.only 12 (some 23) rfl ?_
      refine wpList_build2 rfl 25 38 (.tmp 22) rfl Try.underlying25 Try.sizeOf38 tz (.int .i64 x) (.int .i64 y) rfl ?_
      have bel2 : Below wr.drew.heap.size wr.drew (wr.drew.alloc (.cells #[.int .i64 x, .int .i64 y] 38)) := (Below.refl _ _).alloc (Nat.le_refl _) _
      have N2 : Rd (wr.drew.alloc (.cells #[.int .i64 x, .int .i64 y] 38)) (wr.drew.alloc (.cells #[.int .i64 x, .int .i64 y] 38)).heap.size (some ⟨wr.drew.heap.size, 0, none⟩) 1 2 1 (tcs [(x, y)]) := Rd.one _ (x, y) _
      have O2 := Lib.hid (own_below OW.out.drew bel2)
      have R2 := Lib.hid (RT.out.drew.past bel2)
      have B2 := Lib.hid (BT.out.drew.trans (bel2.mono BT.out.size))
      refine Hb.next (bel2.mono BT.out.size) (Nat.le_refl _) ?_ (by simp only [Act.put, List.setIfInBounds_toArray, List.set_cons_succ, List.set_cons_zero]; rfl)
      generalize wr.drew.alloc (.cells #[.int .i64 x, .int .i64 y] 38) = w2 at *
      refine Hb.only 13 (some 24) rfl ?_
      refine wpList_app rfl (.tmp 11) (.tmp 23) 25 rfl w.heap.size 38 _ 2 16 Try.underlying25 rr_info rfl (by omega) _ i (tcs (l.take i)) rfl O2.out _ _ 1 1 (tcs [(x, y)]) rfl N2 (tcs_one _) ?d1 ?d2 ?d3 ?_
      case d1 => unfold maxLen; omega
      case d2 => omega
      case d3 => have := bel2.size; have := BT.out.size; exact Nat.le_trans BT.out.size bel2.size
      intro A3 c3 w3 O3 g3 b3
      have R3 := Lib.hid (R2.out.below b3)
      have B3 := Lib.hid (B2.out.trans b3)
      refine Hb.next b3 (Nat.le_refl _) ?_
      refine Hb.take 14 3 rfl ?_ (fun w' hw' => by go_simp; first | done | rfl)
      refine Hb.done ?_
-- END
      go_wp2_with fail
      go_roundw
      case rel => exact ⟨i + 1, A3, c3, by omega, rfl, by go_num, Lib.hid (by rw [take_succ_pr (by omega), HP.out, tcs_app]; exact O3), R3, B3⟩
      case measure => simp [intOf]; omega
    · obtain rfl : i = n := by omega
      go_wp2_with fail
      go_ret
      refine ⟨A1, c1, rfl, ?_, BT.out⟩
      have := Rd.of_own OW.out
      rwa [List.take_of_length_le (by omega)] at this

/-- What Bounds answers where all is well. -/
theorem Bounds_c (w : World) (p : Int × Int) (real d : Int) (hp : PDrift.Rdg p) (hr : PDrift.T real) (hpr : p.1 ≤ real) (hd : PDrift.Rate d) (lo hi : Int)
    (hlo : lo = p.2 + (max 0 ((real - p.1) * (1000000 - d) - 1000000) + 1000000 - 1) / 1000000) (hhi : hi = p.2 + ((real - p.1) * (1000000 + d) + 1000000) / 1000000) (tlo : PDrift.T lo) (thi : PDrift.T hi) :
    Calls Try.prog 12 #[pv p, .int .i64 real, .int .i64 d] w fun e w' => e = .returned (.tuple #[.int .i64 lo, .int .i64 hi, .bool true]) ∧ Below w.heap.size w w' := by
  have H1 := Lib.hid (decide_eq_true hd)
  have H2 := Lib.hid (decide_eq_true hp)
  have H3 := Lib.hid (decide_eq_true hr)
  have H4 := Lib.hid (decide_eq_true tlo)
  have H5 := Lib.hid (decide_eq_true thi)
  obtain ⟨x, y⟩ := p
  obtain ⟨⟨a1, a2⟩, a3, a4⟩ := hp
  obtain ⟨r1, r2⟩ := hr
  obtain ⟨d1, d2⟩ := hd
  obtain ⟨t1, t2⟩ := tlo
  obtain ⟨t3, t4⟩ := thi
  simp only at a1 a2 a3 a4 hpr hlo hhi
  obtain ⟨m1, m2⟩ := mul_bound (show 0 ≤ real - x by omega) (show real - x ≤ 2199023255552 by omega) (show 0 ≤ 1000000 - d by omega) (show 1000000 - d ≤ 1500000 by omega)
  obtain ⟨m3, m4⟩ := mul_bound (show 0 ≤ real - x by omega) (show real - x ≤ 2199023255552 by omega) (show 0 ≤ 1000000 + d by omega) (show 1000000 + d ≤ 1500000 by omega)
  show Calls _ _ #[.agg #[.int .i64 x, .int .i64 y], _, _] _ _
  have HLO := Lib.hid hlo
  have HHI := Lib.hid hhi
  clear hlo hhi
  go_enter Try.func12, Try.ntmps12
  go_wp2_with fail
  refine (dRate_c _ d).mono ?_
  rw [H1.out]
  rintro e w' ⟨rfl, rfl⟩
  go_wp2_with fail
  have b1 := (Below.refl w.heap.size w).alloc (Nat.le_refl _) (.cells #[.int .i64 x, .int .i64 y] 31)
  have K := Lib.hid (Blk.new w #[.int .i64 x, .int .i64 y] 31)
  generalize w.alloc (.cells #[.int .i64 x, .int .i64 y] 31) = w1 at *
  refine (dRdg_c w1 (x, y)).mono ?_
  rw [H2.out]
  rintro e w2 ⟨rfl, b2⟩
  have K2 := K.out.past b2
  have c0 := K2.cell (i := 0) rfl
  have c1 := K2.cell (i := 1) rfl
  have B2 := Lib.hid (b1.trans (b2.mono b1.size))
  clear K K2 b1 b2
  go_wp2_with fail
  refine (dTime_c _ real).mono ?_
  rw [H3.out]
  rintro e w' ⟨rfl, rfl⟩
  go_wp2_with fail
  rw [← HLO.out, ← HHI.out]
  refine (dTime_c _ lo).mono ?_
  rw [H4.out]
  rintro e w' ⟨rfl, rfl⟩
  go_wp2_with fail
  refine (dTime_c _ hi).mono ?_
  rw [H5.out]
  rintro e w' ⟨rfl, rfl⟩
  go_wp2_with fail
  go_ret3
  exact ⟨rfl, B2.out⟩

set_option maxHeartbeats 1000000 in
set_option maxRecDepth 100000 in
theorem begun_c (w : World) :
    Calls Try.prog 7 #[] w fun e w' => e = .returned (.bool true) ∧ Below w.heap.size w w' := by
  have H1 := Lib.hid (show decide (PDrift.fault [(0, 5), (100, 110)] 100000 = -1) = true by decide +kernel)
  have H2 := Lib.hid (show decide (PDrift.fault [(0, 5), (100, 110)] 10000 = -1) = false by decide +kernel)
  have H3 := Lib.hid (show PDrift.fault [(0, 5), (100, 110)] 10000 = 2 by decide +kernel)
  go_enter Try.func7, Try.ntmps7
  go_wp2_with fail
  have b1 := Lib.hid ((Below.refl w.heap.size w).alloc (Nat.le_refl _) (.cells #[.int .i64 0, .int .i64 5, .int .i64 100, .int .i64 110] 31))
  have K := Blk.new w #[.int .i64 0, .int .i64 5, .int .i64 100, .int .i64 110] 31
  have R1 := Lib.hid (show Rd (w.alloc (.cells #[.int .i64 0, .int .i64 5, .int .i64 100, .int .i64 110] 31)) (w.alloc (.cells #[.int .i64 0, .int .i64 5, .int .i64 100, .int .i64 110] 31)).heap.size (some ⟨w.heap.size, 0, none⟩) 2 2 2 (tcs [(0, 5), (100, 110)]) from
    ⟨rfl, Nat.le_refl _, by simp [maxLen], (fun h => by cases h), fun _ => ⟨w.heap.size, 0, rfl, by simp, fun j u hu => by rw [Nat.zero_add]; exact K.cell hu⟩⟩)
  clear K
  generalize w.alloc (.cells #[.int .i64 0, .int .i64 5, .int .i64 100, .int .i64 110] 31) = w1 at *
  refine (Bounds_c w1 (0, 5) 100 100000 (by decide) (by decide) (by decide) (by decide) 94 116 (by decide) (by decide) (by decide) (by decide)).mono ?_
  rintro e w2 ⟨rfl, b2⟩
  have R2 := Lib.hid ((R1.out.past b2).tight)
  have B2 := Lib.hid (b1.out.trans (b2.mono b1.out.size))
  clear R1 b1 b2
  go_wp2_with fail
  refine (May_c w2 _ _ _ _ 100000 R2.out).mono ?_
  rw [H1.out]
  rintro e w3 ⟨rfl, b3⟩
  have R3 := Lib.hid ((R2.out.past b3).tight)
  have B3 := Lib.hid (B2.out.trans (b3.mono B2.out.size))
  clear R2 B2 b3
  go_wp2_with fail
  refine (May_c w3 _ _ _ _ 10000 R3.out).mono ?_
  rw [H2.out]
  rintro e w4 ⟨rfl, b4⟩
  have R4 := Lib.hid ((R3.out.past b4).tight)
  have B4 := Lib.hid (B3.out.trans (b4.mono B3.out.size))
  clear R3 B3 b4
  go_wp2_with fail
  refine (Fault_c w4 _ _ _ _ 10000 R4.out).mono ?_
  rw [H3.out]
  rintro e w5 ⟨rfl, b5⟩
  have B5 := Lib.hid (B4.out.trans (b5.mono B4.out.size))
  go_wp2_with fail
  go_ret
  exact ⟨rfl, B5.out⟩
end Go.Proofs.Ytdlghnnflmblnaa
