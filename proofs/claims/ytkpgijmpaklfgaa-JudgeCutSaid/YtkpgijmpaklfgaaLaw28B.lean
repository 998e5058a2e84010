/- The walk of JudgeCut. -/
import Derived.Test.YtkpgijmpaklfgaaJudK
import Derived.Test.YtkpgijmpaklfgaaJudO
import Derived.Deep.CutRange
namespace Go.Proofs.Ytkpgijmpaklfgaa
open Go.RowKit PReady PJud

theorem tolds_ok {l : List Tl} (h : ∀ t ∈ l, EntSm t.2) : ∀ t ∈ l, EntOk t.2 := fun e he => ⟨(h e he).fit, by have := (h e he).sz; unfold maxLen; omega⟩

set_option maxHeartbeats 8000000 in
set_option maxRecDepth 100000 in
theorem JudgeCut_w (w : World) (A : Option Addr) (c n : Nat) (z : List Tl) (x : Int) (R : Rd w w.heap.size A c 8 n (tls z)) (ok : ∀ t ∈ z, EntOk t.2) :
    Calls Try.prog 5 #[.slice A n c, .int .i64 x] w fun e w' => e = .returned (.bool true) ∧ Below w.heap.size w w' := by
  have P1 := Lib.hid R
  have O1 := Lib.hid ok
  clear R ok
  go_enter Try.func5, Try.ntmps5
  go_wp2_with fail
  refine (begunJ_c w).mono ?_
  rintro e w1 ⟨rfl, b1⟩
  have B1 := Lib.hid b1
  clear b1
  go_wp2_with fail
  refine (lTold_c w1 A c n z (P1.out.past B1.out).tight O1.out).mono ?_
  rintro e w3 ⟨A3, c3, l, rfl, h15, o3, hok3, b3⟩
  have N3 := Lib.hid (Rd.of_own o3)
  have B3 := Lib.hid (B1.out.trans (b3.mono B1.out.size))
  have OK := Lib.hid (tolds_ok hok3)
  clear o3 b3 B1 P1 O1 hok3
  obtain ⟨p, hp⟩ : ∃ p, l.length = p := ⟨_, rfl⟩
  have HP := Lib.hid hp
  rw [hp] at N3 h15 ⊢
  clear hp
  by_cases h0 : x < 0
  · go_wp2_with fail
    go_ret
    exact ⟨rfl, B3.out⟩
  obtain ⟨k, rfl⟩ : ∃ k : Nat, x = k := ⟨x.toNat, by omega⟩
  by_cases h1 : (k : Int) > (p : Int)
  · go_wp2_with fail
    go_ret
    exact ⟨rfl, B3.out⟩
  have hk : k ≤ p := by omega
  go_wp2_with fail
  refine (lFirm_c w3 _ A3 c3 p l N3.out (by omega)).mono ?_
  rintro e w4 ⟨A4, c4, rfl, -, b4⟩
  have N4 := Lib.hid (N3.out.past b4).tight
  have B4 := Lib.hid (B3.out.trans (b4.mono B3.out.size))
  clear b4 N3 B3 h0
  obtain ⟨A5, c5, run5, r5⟩ := cut_any (P := Try.prog) (w := w4.drew) 22 32 Try.underlying22 told_info N4.out.drew none (some (.int .i64 k)) 0 k 0 k (Or.inl ⟨rfl, rfl⟩) (Or.inr ⟨rfl, rfl⟩) (Nat.zero_le _) hk
  obtain ⟨A6, c6, run6, r6⟩ := cut_any (P := Try.prog) (w := w4.drew) 22 32 Try.underlying22 told_info N4.out.drew (some (.int .i64 k)) none k p k p (Or.inr ⟨rfl, rfl⟩) (Or.inl ⟨rfl, rfl⟩) hk (Nat.le_refl _)
  have e5 : ((tls l).drop (0 * 8)).take ((k - 0) * 8) = tls (l.take k) := by rw [Nat.zero_mul, List.drop_zero, Nat.sub_zero, tls_take]
  have e6 : ((tls l).drop (k * 8)).take ((p - k) * 8) = tls (l.drop k) := by rw [tls_drop, List.take_of_length_le (by rw [tls_length, List.length_drop, HP.out]; exact Nat.le_refl _)]
  rw [e5, Nat.sub_zero] at r5
  rw [e6] at r6
  rw [Nat.sub_zero] at run5
  have R5 := Lib.hid r5
  have R6 := Lib.hid r6
  have RUN5 := Lib.hid run5
  have RUN6 := Lib.hid run6
  have PX1 := Lib.hid (prefix_take l k)
  have PX2 := Lib.hid (show pfx l (l.take k) = true by rw [prefix_comm]; exact prefix_take l k)
  have FS := Lib.hid (firm_sum l k)
  have OKT := Lib.hid (show ∀ t ∈ l.take k, EntOk t.2 from fun t ht => OK.out t (List.mem_of_mem_take ht))
  have EQ := Lib.hid (show ((((firm (l.take k)).length : Int) + ((firm (l.drop k)).length : Int)) == ((firm l).length : Int)) = true by rw [beq_iff_eq]; have := FS.out; omega)
  have FL := Lib.hid (show (firm (l.take k)).length ≤ 15 ∧ (firm (l.drop k)).length ≤ 15 from by
    have h1 := firm_len (l.take k)
    have h2 := firm_len (l.drop k)
    rw [List.length_take] at h1
    rw [List.length_drop, HP.out] at h2
    omega)
  clear r5 r6 e5 e6 run5 run6 h1
  cases ho : once (l.map (·.2))
  · have HO := Lib.hid ho
    clear ho
    go_wp2_with fail
-- REGION curfew/curfewlaw28.JudgeCut 8 jcut8f 4
    refine Hb.begin ?_
    refine Hb.take (v := .slice A3 p c3) 0 22 rfl ?_ (fun _ _ => rfl)
    refine Hb.take (v := .int .i64 (k : Int)) 1 23 rfl ?_ (fun _ _ => rfl)
    refine Hb.take (v := .slice A5 k c5) 2 24 rfl ?_ (fun w' hw' => by exact run_sliceOp (RUN5.out _))
    refine Hb.take (v := .slice A3 p c3) 3 25 rfl ?_ (fun _ _ => rfl)
    refine Hb.call (f := 14) (args := #[.slice A5 k c5, .slice A3 p c3]) 4 26 rfl ?_ (run_callf Try.func14 (by kernel_rfl) (by kernel_rfl) (by simp only [List.map_toArray, List.map_cons, List.map_nil]; rfl))
    refine (jPrefix_c w4.drew _ _ A5 A3 c5 c3 k p (l.take k) l R5.out N4.out.drew (by omega) (by omega)).mono ?_
    rw [PX1.out]
    rintro e w6 ⟨rfl, b6'⟩
    have b6 := b6'
    have N6 := Lib.hid (N4.out.drew.past b6').tight
    have R56 := Lib.hid (R5.out.past b6').tight
    have R66 := Lib.hid (R6.out.past b6').tight
    refine Hb.back b6' b6'.size ?_
    refine Hb.take (v := .bool true) 5 27 rfl ?_ (fun _ _ => rfl)
    refine Hb.take (v := .slice A3 p c3) 6 28 rfl ?_ (fun _ _ => rfl)
    refine Hb.take (v := .slice A3 p c3) 7 29 rfl ?_ (fun _ _ => rfl)
    refine Hb.take (v := .int .i64 (k : Int)) 8 30 rfl ?_ (fun _ _ => rfl)
    refine Hb.take (v := .slice A5 k c5) 9 31 rfl ?_ (fun w' hw' => by exact run_sliceOp (RUN5.out _))
    refine Hb.call (f := 14) (args := #[.slice A3 p c3, .slice A5 k c5]) 10 32 rfl ?_ (run_callf Try.func14 (by kernel_rfl) (by kernel_rfl) (by simp only [List.map_toArray, List.map_cons, List.map_nil]; rfl))
    refine (jPrefix_c w6 _ _ A3 A5 c3 c5 p k l (l.take k) N6.out R56.out (by omega) (by omega)).mono ?_
    rw [PX2.out]
    rintro e w7 ⟨rfl, b7'⟩
    have b7 := b6.trans (b7'.mono b6.size)
    have N7 := Lib.hid (N6.out.past b7').tight
    have R57 := Lib.hid (R56.out.past b7').tight
    have R67 := Lib.hid (R66.out.past b7').tight
    refine Hb.back b7' b7'.size ?_
    refine Hb.take (v := .bool true) 11 33 rfl ?_ (fun _ _ => rfl)
    refine Hb.take (v := .bool true) 12 34 rfl ?_ (fun _ _ => rfl)
    refine Hb.take (v := .slice A3 p c3) 13 35 rfl ?_ (fun _ _ => rfl)
    refine Hb.take (v := .int .i64 (k : Int)) 14 36 rfl ?_ (fun _ _ => rfl)
    refine Hb.take (v := .slice A5 k c5) 15 37 rfl ?_ (fun w' hw' => by exact run_sliceOp (RUN5.out _))
    refine Hb.take (v := .slice A3 p c3) 18 40 rfl ?_ (fun _ _ => rfl)
    refine Hb.take (v := .int .i64 (k : Int)) 19 41 rfl ?_ (fun _ _ => rfl)
    refine Hb.take (v := .slice A6 (p - k) c6) 20 42 rfl ?_ (fun w' hw' => by exact run_sliceOp (RUN6.out _))
    refine Hb.take (v := .slice A4 (firm l).length c4) 24 46 rfl ?_ (fun _ _ => rfl)
    refine Hb.take (v := .int .i64 ((firm l).length : Int)) 25 47 rfl ?_ (fun w' hw' => by go_simp; first | done | rfl | omega | exact wrap_in (by omega) (by omega) | exact Int.tmod_eq_emod_of_nonneg (by omega) | exact Int.tdiv_eq_ediv_of_nonneg (by omega) | (simp; omega))
    refine Hb.call (f := 13) (args := #[.slice A5 k c5]) 16 38 rfl ?_ (run_callf Try.func13 (by kernel_rfl) (by kernel_rfl) (by simp only [List.map_toArray, List.map_cons, List.map_nil]; rfl))
    refine (jFirm_c w7 _ A5 c5 k (l.take k) R57.out (by omega)).mono ?_
    rintro e w8 ⟨A8, c8, rfl, -, b8'⟩
    have b8 := b7.trans (b8'.mono b7.size)
    have N8 := Lib.hid (N7.out.past b8').tight
    have R58 := Lib.hid (R57.out.past b8').tight
    have R68 := Lib.hid (R67.out.past b8').tight
    refine Hb.back b8' b8'.size ?_
    refine Hb.take (v := .int .i64 ((firm (l.take k)).length : Int)) 17 39 rfl ?_ (fun w' hw' => by go_simp; first | done | rfl | omega | exact wrap_in (by omega) (by omega) | exact Int.tmod_eq_emod_of_nonneg (by omega) | exact Int.tdiv_eq_ediv_of_nonneg (by omega) | (simp; omega))
    refine Hb.call (f := 13) (args := #[.slice A6 (p - k) c6]) 21 43 rfl ?_ (run_callf Try.func13 (by kernel_rfl) (by kernel_rfl) (by simp only [List.map_toArray, List.map_cons, List.map_nil]; rfl))
    refine (jFirm_c w8 _ A6 c6 (p - k) (l.drop k) R68.out (by omega)).mono ?_
    rintro e w9 ⟨A9, c9, rfl, -, b9'⟩
    have b9 := b8.trans (b9'.mono b8.size)
    have N9 := Lib.hid (N8.out.past b9').tight
    have R59 := Lib.hid (R58.out.past b9').tight
    have R69 := Lib.hid (R68.out.past b9').tight
    refine Hb.back b9' b9'.size ?_
    refine Hb.take (v := .int .i64 ((firm (l.drop k)).length : Int)) 22 44 rfl ?_ (fun w' hw' => by go_simp; first | done | rfl | omega | exact wrap_in (by omega) (by omega) | exact Int.tmod_eq_emod_of_nonneg (by omega) | exact Int.tdiv_eq_ediv_of_nonneg (by omega) | (simp; omega))
    refine Hb.take (v := .int .i64 (((firm (l.take k)).length : Int) + ((firm (l.drop k)).length : Int))) 23 45 rfl ?_ (fun w' hw' => by have h15 := FL.out; go_simp; exact wrap_in (by omega) (by omega))
    refine Hb.take (v := .bool true) 26 48 rfl ?_ (fun w' hw' => by have heq := EQ.out; go_simp)
    refine Hb.take (v := .bool true) 27 49 rfl ?_ (fun _ _ => rfl)
    refine Hb.take (v := .bool true) 28 50 rfl ?_ (fun _ _ => rfl)
    refine Hb.take (v := .slice A3 p c3) 29 51 rfl ?_ (fun _ _ => rfl)
    refine Hb.call (f := 15) (args := #[.slice A3 p c3]) 30 52 rfl ?_ (run_callf Try.func15 (by kernel_rfl) (by kernel_rfl) (by simp only [List.map_toArray, List.map_cons, List.map_nil]; rfl))
    refine (jOnce_c w9 _ A3 c3 p l N9.out (by omega) OK.out).mono ?_
    rw [HO.out]
    rintro e w11 ⟨rfl, b11'⟩
    have b11 := b9.trans (b11'.mono b9.size)
    have N11 := Lib.hid (N9.out.past b11').tight
    have R511 := Lib.hid (R59.out.past b11').tight
    have R611 := Lib.hid (R69.out.past b11').tight
    refine Hb.back b11' b11'.size ?_
    refine Hb.take (v := .bool true) 31 53 rfl ?_ (fun w' hw' => by go_simp; first | done | rfl | omega | exact wrap_in (by omega) (by omega) | exact Int.tmod_eq_emod_of_nonneg (by omega) | exact Int.tdiv_eq_ediv_of_nonneg (by omega) | (simp; omega))
    refine Hb.take (v := .bool true) 32 54 rfl ?_ (fun _ _ => rfl)
    refine Hb.pass 33 55 rfl ?_
    refine Hb.pass 34 56 rfl ?_
    refine Hb.pass 35 57 rfl ?_
    refine Hb.pass 36 58 rfl ?_
    refine Hb.take (v := Value.bool true) 37 59 rfl ?_ (fun _ _ => rfl)
    refine Hb.take (v := Value.bool true) 38 60 rfl ?_ (fun _ _ => rfl)
    refine Hb.take (v := Value.bool true) 39 4 rfl ?_ (fun _ _ => rfl)
    refine Hb.done ?_
-- END
    go_wp2_with fail
    go_ret
    exact ⟨rfl, B4.out.drew.trans (b11.mono B4.out.size)⟩
  · have HO := Lib.hid ho
    have HO2 := Lib.hid (show once ((l.take k).map (·.2)) = true by
      rw [List.map_take]
      exact once_take (by rw [List.length_map, HP.out]; exact hk) ho)
    clear ho
    go_wp2_with fail
-- REGION curfew/curfewlaw28.JudgeCut 8 jcut8t 4
    refine Hb.begin ?_
    refine Hb.take (v := .slice A3 p c3) 0 22 rfl ?_ (fun _ _ => rfl)
    refine Hb.take (v := .int .i64 (k : Int)) 1 23 rfl ?_ (fun _ _ => rfl)
    refine Hb.take (v := .slice A5 k c5) 2 24 rfl ?_ (fun w' hw' => by exact run_sliceOp (RUN5.out _))
    refine Hb.take (v := .slice A3 p c3) 3 25 rfl ?_ (fun _ _ => rfl)
    refine Hb.call (f := 14) (args := #[.slice A5 k c5, .slice A3 p c3]) 4 26 rfl ?_ (run_callf Try.func14 (by kernel_rfl) (by kernel_rfl) (by simp only [List.map_toArray, List.map_cons, List.map_nil]; rfl))
    refine (jPrefix_c w4.drew _ _ A5 A3 c5 c3 k p (l.take k) l R5.out N4.out.drew (by omega) (by omega)).mono ?_
    rw [PX1.out]
    rintro e w6 ⟨rfl, b6'⟩
    have b6 := b6'
    have N6 := Lib.hid (N4.out.drew.past b6').tight
    have R56 := Lib.hid (R5.out.past b6').tight
    have R66 := Lib.hid (R6.out.past b6').tight
    refine Hb.back b6' b6'.size ?_
    refine Hb.take (v := .bool true) 5 27 rfl ?_ (fun _ _ => rfl)
    refine Hb.take (v := .slice A3 p c3) 6 28 rfl ?_ (fun _ _ => rfl)
    refine Hb.take (v := .slice A3 p c3) 7 29 rfl ?_ (fun _ _ => rfl)
    refine Hb.take (v := .int .i64 (k : Int)) 8 30 rfl ?_ (fun _ _ => rfl)
    refine Hb.take (v := .slice A5 k c5) 9 31 rfl ?_ (fun w' hw' => by exact run_sliceOp (RUN5.out _))
    refine Hb.call (f := 14) (args := #[.slice A3 p c3, .slice A5 k c5]) 10 32 rfl ?_ (run_callf Try.func14 (by kernel_rfl) (by kernel_rfl) (by simp only [List.map_toArray, List.map_cons, List.map_nil]; rfl))
    refine (jPrefix_c w6 _ _ A3 A5 c3 c5 p k l (l.take k) N6.out R56.out (by omega) (by omega)).mono ?_
    rw [PX2.out]
    rintro e w7 ⟨rfl, b7'⟩
    have b7 := b6.trans (b7'.mono b6.size)
    have N7 := Lib.hid (N6.out.past b7').tight
    have R57 := Lib.hid (R56.out.past b7').tight
    have R67 := Lib.hid (R66.out.past b7').tight
    refine Hb.back b7' b7'.size ?_
    refine Hb.take (v := .bool true) 11 33 rfl ?_ (fun _ _ => rfl)
    refine Hb.take (v := .bool true) 12 34 rfl ?_ (fun _ _ => rfl)
    refine Hb.take (v := .slice A3 p c3) 13 35 rfl ?_ (fun _ _ => rfl)
    refine Hb.take (v := .int .i64 (k : Int)) 14 36 rfl ?_ (fun _ _ => rfl)
    refine Hb.take (v := .slice A5 k c5) 15 37 rfl ?_ (fun w' hw' => by exact run_sliceOp (RUN5.out _))
    refine Hb.take (v := .slice A3 p c3) 18 40 rfl ?_ (fun _ _ => rfl)
    refine Hb.take (v := .int .i64 (k : Int)) 19 41 rfl ?_ (fun _ _ => rfl)
    refine Hb.take (v := .slice A6 (p - k) c6) 20 42 rfl ?_ (fun w' hw' => by exact run_sliceOp (RUN6.out _))
    refine Hb.take (v := .slice A4 (firm l).length c4) 24 46 rfl ?_ (fun _ _ => rfl)
    refine Hb.take (v := .int .i64 ((firm l).length : Int)) 25 47 rfl ?_ (fun w' hw' => by go_simp; first | done | rfl | omega | exact wrap_in (by omega) (by omega) | exact Int.tmod_eq_emod_of_nonneg (by omega) | exact Int.tdiv_eq_ediv_of_nonneg (by omega) | (simp; omega))
    refine Hb.call (f := 13) (args := #[.slice A5 k c5]) 16 38 rfl ?_ (run_callf Try.func13 (by kernel_rfl) (by kernel_rfl) (by simp only [List.map_toArray, List.map_cons, List.map_nil]; rfl))
    refine (jFirm_c w7 _ A5 c5 k (l.take k) R57.out (by omega)).mono ?_
    rintro e w8 ⟨A8, c8, rfl, -, b8'⟩
    have b8 := b7.trans (b8'.mono b7.size)
    have N8 := Lib.hid (N7.out.past b8').tight
    have R58 := Lib.hid (R57.out.past b8').tight
    have R68 := Lib.hid (R67.out.past b8').tight
    refine Hb.back b8' b8'.size ?_
    refine Hb.take (v := .int .i64 ((firm (l.take k)).length : Int)) 17 39 rfl ?_ (fun w' hw' => by go_simp; first | done | rfl | omega | exact wrap_in (by omega) (by omega) | exact Int.tmod_eq_emod_of_nonneg (by omega) | exact Int.tdiv_eq_ediv_of_nonneg (by omega) | (simp; omega))
    refine Hb.call (f := 13) (args := #[.slice A6 (p - k) c6]) 21 43 rfl ?_ (run_callf Try.func13 (by kernel_rfl) (by kernel_rfl) (by simp only [List.map_toArray, List.map_cons, List.map_nil]; rfl))
    refine (jFirm_c w8 _ A6 c6 (p - k) (l.drop k) R68.out (by omega)).mono ?_
    rintro e w9 ⟨A9, c9, rfl, -, b9'⟩
    have b9 := b8.trans (b9'.mono b8.size)
    have N9 := Lib.hid (N8.out.past b9').tight
    have R59 := Lib.hid (R58.out.past b9').tight
    have R69 := Lib.hid (R68.out.past b9').tight
    refine Hb.back b9' b9'.size ?_
    refine Hb.take (v := .int .i64 ((firm (l.drop k)).length : Int)) 22 44 rfl ?_ (fun w' hw' => by go_simp; first | done | rfl | omega | exact wrap_in (by omega) (by omega) | exact Int.tmod_eq_emod_of_nonneg (by omega) | exact Int.tdiv_eq_ediv_of_nonneg (by omega) | (simp; omega))
    refine Hb.take (v := .int .i64 (((firm (l.take k)).length : Int) + ((firm (l.drop k)).length : Int))) 23 45 rfl ?_ (fun w' hw' => by have h15 := FL.out; go_simp; exact wrap_in (by omega) (by omega))
    refine Hb.take (v := .bool true) 26 48 rfl ?_ (fun w' hw' => by have heq := EQ.out; go_simp)
    refine Hb.take (v := .bool true) 27 49 rfl ?_ (fun _ _ => rfl)
    refine Hb.take (v := .bool true) 28 50 rfl ?_ (fun _ _ => rfl)
    refine Hb.take (v := .slice A3 p c3) 29 51 rfl ?_ (fun _ _ => rfl)
    refine Hb.call (f := 15) (args := #[.slice A3 p c3]) 30 52 rfl ?_ (run_callf Try.func15 (by kernel_rfl) (by kernel_rfl) (by simp only [List.map_toArray, List.map_cons, List.map_nil]; rfl))
    refine (jOnce_c w9 _ A3 c3 p l N9.out (by omega) OK.out).mono ?_
    rw [HO.out]
    rintro e w11 ⟨rfl, b11'⟩
    have b11 := b9.trans (b11'.mono b9.size)
    have N11 := Lib.hid (N9.out.past b11').tight
    have R511 := Lib.hid (R59.out.past b11').tight
    have R611 := Lib.hid (R69.out.past b11').tight
    refine Hb.back b11' b11'.size ?_
    refine Hb.take (v := .bool false) 31 53 rfl ?_ (fun w' hw' => by go_simp; first | done | rfl | omega | exact wrap_in (by omega) (by omega) | exact Int.tmod_eq_emod_of_nonneg (by omega) | exact Int.tdiv_eq_ediv_of_nonneg (by omega) | (simp; omega))
    refine Hb.take (v := .bool false) 32 54 rfl ?_ (fun _ _ => rfl)
    refine Hb.take (v := .slice A3 p c3) 33 55 rfl ?_ (fun _ _ => rfl)
    refine Hb.take (v := .int .i64 (k : Int)) 34 56 rfl ?_ (fun _ _ => rfl)
    refine Hb.take (v := .slice A5 k c5) 35 57 rfl ?_ (fun w' hw' => by exact run_sliceOp (RUN5.out _))
    refine Hb.call (f := 15) (args := #[.slice A5 k c5]) 36 58 rfl ?_ (run_callf Try.func15 (by kernel_rfl) (by kernel_rfl) (by simp only [List.map_toArray, List.map_cons, List.map_nil]; rfl))
    refine (jOnce_c w11 _ A5 c5 k (l.take k) R511.out (by omega) OKT.out).mono ?_
    rw [HO2.out]
    rintro e w12 ⟨rfl, b12'⟩
    have b12 := b11.trans (b12'.mono b11.size)
    refine Hb.back b12' b12'.size ?_
    refine Hb.take (v := .bool true) 37 59 rfl ?_ (fun _ _ => rfl)
    refine Hb.take (v := .bool true) 38 60 rfl ?_ (fun _ _ => rfl)
    refine Hb.take (v := .bool true) 39 4 rfl ?_ (fun _ _ => rfl)
    refine Hb.done ?_
-- END
    go_wp2_with fail
    go_ret
    exact ⟨rfl, B4.out.drew.trans (b12.mono B4.out.size)⟩
end Go.Proofs.Ytkpgijmpaklfgaa
