/- The walk of JudgeAgree. -/
import Derived.Test.YtkpgijmpaklfgaaJudK
import Derived.Test.YtkpgijmpaklfgaaEntR
import Derived.Test.YtkpgijmpaklfgaaJudO
import Derived.Deep.CutRange
namespace Go.Proofs.Ytkpgijmpaklfgaa
open Go.RowKit PReady PJud

theorem ents_ok {l : List Ent} (h : ∀ e ∈ l, EntSm e) : ∀ e ∈ l, EntOk e := fun e he => ⟨(h e he).fit, by have := (h e he).sz; unfold maxLen; omega⟩
theorem tolds_ok {l : List Tl} (h : ∀ t ∈ l, EntSm t.2) : ∀ t ∈ l, EntOk t.2 := fun e he => ⟨(h e he).fit, by have := (h e he).sz; unfold maxLen; omega⟩

set_option maxHeartbeats 8000000 in
set_option maxRecDepth 100000 in
theorem JudgeAgree_w (w : World) (A : Option Addr) (c n : Nat) (z : List Ent) (A2 : Option Addr) (c2 n2 : Nat) (z2 : List Ent) (x y : Int) (R : Rd w w.heap.size A c 7 n (els z)) (ok : ∀ e ∈ z, EntOk e) (R2 : Rd w w.heap.size A2 c2 7 n2 (els z2)) (ok2 : ∀ e ∈ z2, EntOk e)
    (hx : -9223372036854775808 ≤ x) (hy : -9223372036854775808 ≤ y) :
    Calls Try.prog 4 #[.slice A n c, .slice A2 n2 c2, .int .i64 x, .int .i64 y] w fun e w' => e = .returned (.bool true) ∧ Below w.heap.size w w' := by
  have P1 := Lib.hid R
  have P2 := Lib.hid R2
  have O1 := Lib.hid ok
  have O2 := Lib.hid ok2
  clear R R2 ok ok2
  go_enter Try.func4, Try.ntmps4
  go_wp2_with fail
  refine (begunJ_c w).mono ?_
  rintro e w1 ⟨rfl, b1⟩
  have B1 := Lib.hid b1
  clear b1
  go_wp2_with fail
  refine (lEntries_c w1 A c n z 12 (P1.out.past B1.out).tight O1.out (by omega) (by omega)).mono ?_
  rintro e w3 ⟨A3, c3, es, rfl, -, o3, -, b3⟩
  have N3 := Lib.hid (Rd.of_own o3)
  have B3 := Lib.hid (B1.out.trans (b3.mono B1.out.size))
  clear o3 b3
  go_wp2_with fail
  refine (lEntries_c w3 A2 c2 n2 z2 12 (P2.out.past B3.out).tight O2.out (by omega) (by omega)).mono ?_
  rintro e w4 ⟨A4, c4, fs, rfl, -, o4, -, b4⟩
  have N4 := Lib.hid (Rd.of_own o4)
  have M3 := Lib.hid ((N3.out.past b4).tight)
  have B4 := Lib.hid (B3.out.trans (b4.mono B3.out.size))
  clear o4 b4 N3 B3 B1 P1 P2 O1 O2
  obtain ⟨p, hp⟩ : ∃ p, es.length = p := ⟨_, rfl⟩
  obtain ⟨q, hq⟩ : ∃ q, fs.length = q := ⟨_, rfl⟩
  have HP := Lib.hid hp
  have HQ := Lib.hid hq
  rw [hp] at M3 ⊢
  rw [hq] at N4 ⊢
  clear hp hq
  obtain ⟨k, hk⟩ : ∃ k, min (less x p) (less y q) = k := ⟨_, rfl⟩
  have hkp : k ≤ p := by unfold less at hk; omega
  have hkq : k ≤ q := by unfold less at hk; omega
  have HKI := Lib.hid (show min (max 0 (min x (p : Int))) (max 0 (min y (q : Int))) = (k : Int) by unfold less at hk; omega)
  have GA1 := Lib.hid (show agree es x fs y = PEnt.eqL (es.take k) (fs.take k) by unfold agree; rw [HP.out, HQ.out, hk]; rfl)
  have GA2 := Lib.hid (show agree fs y es x = PEnt.eqL (es.take k) (fs.take k) by rw [agree_comm]; exact GA1.out)
  have GA3 := Lib.hid (agree_self es x y)
  obtain ⟨r, hr⟩ : ∃ r, PEnt.eqL (es.take k) (fs.take k) = r := ⟨_, rfl⟩
  rw [hr] at GA1 GA2
  have HR := Lib.hid hr
  have HX := Lib.hid hx
  have HY := Lib.hid hy
  clear hr hk hx hy
  obtain ⟨A5, c5, run5, r5⟩ := cut_any (P := Try.prog) (w := w4.drew) 23 30 Try.underlying23 ent_info M3.out.drew none (some (.int .i64 k)) 0 k 0 k (Or.inl ⟨rfl, rfl⟩) (Or.inr ⟨rfl, rfl⟩) (Nat.zero_le _) hkp
  obtain ⟨A6, c6, run6, r6⟩ := cut_any (P := Try.prog) (w := w4.drew) 23 30 Try.underlying23 ent_info N4.out.drew none (some (.int .i64 k)) 0 k 0 k (Or.inl ⟨rfl, rfl⟩) (Or.inr ⟨rfl, rfl⟩) (Nat.zero_le _) hkq
  have e5 : ∀ l : List Ent, ((els l).drop (0 * 7)).take ((k - 0) * 7) = els (l.take k) := fun l => by rw [Nat.zero_mul, List.drop_zero, Nat.sub_zero, els_take]
  rw [e5, Nat.sub_zero] at r5 r6
  rw [Nat.sub_zero] at run5 run6
  have R5 := Lib.hid r5
  have R6 := Lib.hid r6
  have RUN5 := Lib.hid run5
  have RUN6 := Lib.hid run6
  clear r5 r6 e5 run5 run6
  go_upto_region 6 with fail
  rw [HKI.out]
-- REGION curfew/curfewlaw28.JudgeAgree 6 jagr6 2
  refine Hb.begin ?_
  refine Hb.take (v := .slice A3 p c3) 0 29 rfl ?_ (fun _ _ => rfl)
  refine Hb.take (v := .int .i64 x) 1 30 rfl ?_ (fun _ _ => rfl)
  refine Hb.take (v := .slice A4 q c4) 2 31 rfl ?_ (fun _ _ => rfl)
  refine Hb.take (v := .int .i64 y) 3 32 rfl ?_ (fun _ _ => rfl)
  refine Hb.take (v := .slice A3 p c3) 5 34 rfl ?_ (fun _ _ => rfl)
  refine Hb.take (v := .int .i64 (k : Int)) 6 35 rfl ?_ (fun _ _ => rfl)
  refine Hb.take (v := .slice A5 k c5) 7 36 rfl ?_ (fun w' hw' => by exact run_sliceOp (RUN5.out _))
  refine Hb.take (v := .slice A4 q c4) 8 37 rfl ?_ (fun _ _ => rfl)
  refine Hb.take (v := .int .i64 (k : Int)) 9 38 rfl ?_ (fun _ _ => rfl)
  refine Hb.take (v := .slice A6 k c6) 10 39 rfl ?_ (fun w' hw' => by exact run_sliceOp (RUN6.out _))
  refine Hb.call (f := 17) (args := #[.slice A3 p c3, .int .i64 x, .slice A4 q c4, .int .i64 y]) 4 33 rfl ?_ (run_callf Try.func17 (by kernel_rfl) (by kernel_rfl) (by simp only [List.map_toArray, List.map_cons, List.map_nil]; rfl))
  refine (jAgree_c w4.drew _ _ A3 A4 c3 c4 p q es fs M3.out.drew N4.out.drew x y HX.out HY.out).mono ?_
  rw [GA1.out]
  rintro e w6 ⟨rfl, b6⟩
  have M6 := Lib.hid (M3.out.drew.past b6).tight
  have N6 := Lib.hid (N4.out.drew.past b6).tight
  have R56 := Lib.hid (R5.out.past b6).tight
  have R66 := Lib.hid (R6.out.past b6).tight
  refine Hb.back b6 b6.size ?_
  refine Hb.call (f := 12) (args := #[.slice A5 k c5, .slice A6 k c6]) 11 40 rfl ?_ (run_callf Try.func12 (by kernel_rfl) (by kernel_rfl) (by simp only [List.map_toArray, List.map_cons, List.map_nil]; rfl))
  refine (EqAll_c w6 A5 A6 c5 k c6 k (es.take k) (fs.take k) R56.out R66.out).mono ?_
  rw [HR.out]
  rintro e w7 ⟨rfl, b7'⟩
  have b7 := b6.trans (b7'.mono b6.size)
  have M7 := Lib.hid (M6.out.past b7').tight
  have N7 := Lib.hid (N6.out.past b7').tight
  refine Hb.back b7' b7'.size ?_
  refine Hb.take (v := .bool true) 12 41 rfl ?_ (fun w' hw' => by go_simp; first | done | rfl | omega | exact wrap_in (by omega) (by omega) | exact Int.tmod_eq_emod_of_nonneg (by omega) | exact Int.tdiv_eq_ediv_of_nonneg (by omega) | (simp; omega))
  refine Hb.take (v := .bool true) 13 42 rfl ?_ (fun _ _ => rfl)
  refine Hb.take (v := .slice A3 p c3) 14 43 rfl ?_ (fun _ _ => rfl)
  refine Hb.take (v := .int .i64 x) 15 44 rfl ?_ (fun _ _ => rfl)
  refine Hb.take (v := .slice A4 q c4) 16 45 rfl ?_ (fun _ _ => rfl)
  refine Hb.take (v := .int .i64 y) 17 46 rfl ?_ (fun _ _ => rfl)
  refine Hb.take (v := .slice A4 q c4) 19 48 rfl ?_ (fun _ _ => rfl)
  refine Hb.take (v := .int .i64 y) 20 49 rfl ?_ (fun _ _ => rfl)
  refine Hb.take (v := .slice A3 p c3) 21 50 rfl ?_ (fun _ _ => rfl)
  refine Hb.take (v := .int .i64 x) 22 51 rfl ?_ (fun _ _ => rfl)
  refine Hb.call (f := 17) (args := #[.slice A3 p c3, .int .i64 x, .slice A4 q c4, .int .i64 y]) 18 47 rfl ?_ (run_callf Try.func17 (by kernel_rfl) (by kernel_rfl) (by simp only [List.map_toArray, List.map_cons, List.map_nil]; rfl))
  refine (jAgree_c w7 _ _ A3 A4 c3 c4 p q es fs M7.out N7.out x y HX.out HY.out).mono ?_
  rw [GA1.out]
  rintro e w8 ⟨rfl, b8'⟩
  have b8 := b7.trans (b8'.mono b7.size)
  have M8 := Lib.hid (M7.out.past b8').tight
  have N8 := Lib.hid (N7.out.past b8').tight
  refine Hb.back b8' b8'.size ?_
  refine Hb.call (f := 17) (args := #[.slice A4 q c4, .int .i64 y, .slice A3 p c3, .int .i64 x]) 23 52 rfl ?_ (run_callf Try.func17 (by kernel_rfl) (by kernel_rfl) (by simp only [List.map_toArray, List.map_cons, List.map_nil]; rfl))
  refine (jAgree_c w8 _ _ A4 A3 c4 c3 q p fs es N8.out M8.out y x HY.out HX.out).mono ?_
  rw [GA2.out]
  rintro e w9 ⟨rfl, b9'⟩
  have b9 := b8.trans (b9'.mono b8.size)
  have M9 := Lib.hid (M8.out.past b9').tight
  refine Hb.back b9' b9'.size ?_
  refine Hb.take (v := .bool true) 24 53 rfl ?_ (fun w' hw' => by go_simp; first | done | rfl | omega | exact wrap_in (by omega) (by omega) | exact Int.tmod_eq_emod_of_nonneg (by omega) | exact Int.tdiv_eq_ediv_of_nonneg (by omega) | (simp; omega))
  refine Hb.take (v := .bool true) 25 54 rfl ?_ (fun _ _ => rfl)
  refine Hb.take (v := .bool true) 26 55 rfl ?_ (fun _ _ => rfl)
  refine Hb.take (v := .slice A3 p c3) 27 56 rfl ?_ (fun _ _ => rfl)
  refine Hb.take (v := .int .i64 x) 28 57 rfl ?_ (fun _ _ => rfl)
  refine Hb.take (v := .slice A3 p c3) 29 58 rfl ?_ (fun _ _ => rfl)
  refine Hb.take (v := .int .i64 y) 30 59 rfl ?_ (fun _ _ => rfl)
  refine Hb.call (f := 17) (args := #[.slice A3 p c3, .int .i64 x, .slice A3 p c3, .int .i64 y]) 31 60 rfl ?_ (run_callf Try.func17 (by kernel_rfl) (by kernel_rfl) (by simp only [List.map_toArray, List.map_cons, List.map_nil]; rfl))
  refine (jAgree_c w9 _ _ A3 A3 c3 c3 p p es es M9.out M9.out x y HX.out HY.out).mono ?_
  rw [GA3.out]
  rintro e w10 ⟨rfl, b10'⟩
  have b10 := b9.trans (b10'.mono b9.size)
  refine Hb.back b10' b10'.size ?_
  refine Hb.take (v := .bool true) 32 61 rfl ?_ (fun _ _ => rfl)
  refine Hb.take (v := .bool true) 33 8 rfl ?_ (fun _ _ => rfl)
  refine Hb.done ?_
-- END
  go_wp2_with fail
  go_ret
  exact ⟨rfl, B4.out.drew.trans (b10.mono B4.out.size)⟩
end Go.Proofs.Ytkpgijmpaklfgaa
