/- Contracts of the document's own answers: Keeps, Fault. -/
import Derived.Test.YtdlghnnflmblnaaDriftC
namespace Go.Proofs.Ytdlghnnflmblnaa
open Go.RowKit
open PDrift (pr)

set_option maxHeartbeats 1000000 in
theorem rKeeps_c (w : World) (a b : Int × Int) (d : Int) (ha : PDrift.Rdg a) (hb : PDrift.Rdg b) (hr : a.1 ≤ b.1) (hd : PDrift.Rate d) :
    Calls Try.prog 14 #[pv a, pv b, .int .i64 d] w fun e w' => e = .returned (.bool (decide (PDrift.keeps d a b))) ∧ Below w.heap.size w w' := by
  have hk := PDrift.keeps_parts (d := d) (a := a) (b := b)
  obtain ⟨x, y⟩ := a
  obtain ⟨x', y'⟩ := b
  obtain ⟨⟨a1, a2⟩, a3, a4⟩ := ha
  obtain ⟨⟨b1, b2⟩, b3, b4⟩ := hb
  obtain ⟨d1, d2⟩ := hd
  simp only at a1 a2 a3 a4 b1 b2 b3 b4 hr hk
  obtain ⟨m1, m2⟩ := mul_bound (show 0 ≤ x' - x by omega) (show x' - x ≤ 2199023255552 by omega) (show 0 ≤ 1000000 - d by omega) (show 1000000 - d ≤ 1500000 by omega)
  obtain ⟨m3, m4⟩ := mul_bound (show 0 ≤ x' - x by omega) (show x' - x ≤ 2199023255552 by omega) (show 0 ≤ 1000000 + d by omega) (show 1000000 + d ≤ 1500000 by omega)
  have u1 := PSpan.le_up (a := x' - x) (p := 1000000 - d) (q := 1000000) (by omega)
  have u2 : PSpan.up (x' - x) (1000000 - d) 1000000 ≤ 4398046511104 := PSpan.up_le (by omega) (by omega)
  have v1 := PSpan.dn_le (a := x' - x) (p := 1000000 + d) (q := 1000000) (by omega)
  have v2 : 0 ≤ PSpan.dn (x' - x) (1000000 + d) 1000000 := PSpan.le_dn (by omega) (by omega)
  have CU := Lib.hid (fun w => Ratio_c w (x' - x) (1000000 - d) 1000000 true (by omega) (by omega) (by omega) (by omega) (by omega) (by omega))
  have CV := Lib.hid (fun w => Ratio_c w (x' - x) (1000000 + d) 1000000 false (by omega) (by omega) (by omega) (by omega) (by omega) (by omega))
  have u3 : 0 ≤ PSpan.up (x' - x) (1000000 - d) 1000000 := by omega
  have v3 : PSpan.dn (x' - x) (1000000 + d) 1000000 ≤ 4398046511104 := by omega
  clear m1 m2 m3 m4 u1 v1
  unfold ratio at CU CV
  simp only [if_true, Bool.false_eq_true, if_false] at CU CV
  generalize PSpan.up (x' - x) (1000000 - d) 1000000 = U at *
  generalize PSpan.dn (x' - x) (1000000 + d) 1000000 = V at *
  show Calls _ _ #[.agg #[.int .i64 x, .int .i64 y], .agg #[.int .i64 x', .int .i64 y'], _] _ _
  have bel := Lib.hid (((Below.refl w.heap.size w).alloc (Nat.le_refl _) (.cells #[.int .i64 x, .int .i64 y] 38)).alloc (by simp) (.cells #[.int .i64 x', .int .i64 y'] 38))
  by_cases h1 : y ≤ y'
  · by_cases h2 : U - 1 ≤ y' - y
    · have HK := Lib.hid (show decide (PDrift.keeps d (x, y) (x', y')) = decide (y' - y ≤ V + 1) from decide_eq_decide.2 (hk.trans ⟨fun h => h.2.2, fun h => ⟨by omega, h2, h⟩⟩))
      clear hk
      rw [HK.out]
      go_enter Try.func14, Try.ntmps14
      go_wp2_with fail
      go_quiet (fail)
      go_wp2_with fail
      refine (CU.out _).mono ?_
      rintro e w' ⟨rfl, rfl⟩
      go_wp2_with fail
      refine (CV.out _).mono ?_
      rintro e w' ⟨rfl, rfl⟩
      go_wp2_with fail
      go_ret
      exact ⟨rfl, bel_drawn bel.out _⟩
    · have HK := Lib.hid (show decide (PDrift.keeps d (x, y) (x', y')) = false from decide_eq_false (fun h => h2 (hk.1 h).2.1))
      clear hk
      rw [HK.out]
      go_enter Try.func14, Try.ntmps14
      go_wp2_with fail
      go_quiet (fail)
      go_wp2_with fail
      refine (CU.out _).mono ?_
      rintro e w' ⟨rfl, rfl⟩
      go_wp2_with fail
      go_ret
      exact ⟨rfl, bel_drawn bel.out _⟩
  · have HK := Lib.hid (show decide (PDrift.keeps d (x, y) (x', y')) = false from decide_eq_false (fun h => by have := (hk.1 h).1; omega))
    clear hk
    rw [HK.out]
    go_enter Try.func14, Try.ntmps14
    go_wp2_with fail
    go_quiet (fail)
    go_wp2_with fail
    go_ret
    exact ⟨rfl, bel_drawn bel.out _⟩

set_option maxHeartbeats 2000000 in
set_option maxRecDepth 100000 in
theorem rFault_c (w : World) (A : Option Addr) (c n : Nat) (l : List (Int × Int)) (d : Int) (h : Rd w w.heap.size A c 2 n (tcs l)) :
    Calls Try.prog 8 #[.slice A n c, .int .i64 d] w fun e w' => e = .returned (.int .i64 (PDrift.fault l d)) ∧ Below w.heap.size w w' := by
  have hln := h.plen
  have hcap := h.cap
  have hle := h.le
  unfold maxLen at hcap
  have R0 := Lib.hid h
  clear h
  by_cases h1 : d < 0
  · have HF := Lib.hid (PDrift.fault_bad (l := l) (d := d) (fun h => by have := h.1.1; omega))
    go_enter Try.func8, Try.ntmps8
    go_wp2_with fail
    go_ret
    exact ⟨by rw [HF.out]; rfl, Below.refl _ _⟩
  by_cases h2 : 500000 < d
  · have HF := Lib.hid (PDrift.fault_bad (l := l) (d := d) (fun h => by have := h.1.2; omega))
    go_enter Try.func8, Try.ntmps8
    go_wp2_with fail
    go_ret
    exact ⟨by rw [HF.out]; rfl, Below.refl _ _⟩
  have HRate := Lib.hid (show PDrift.Rate d from ⟨by omega, by omega⟩)
  go_enter Try.func8, Try.ntmps8
  go_wp2_with fail
  go_loopw [5] (fun s5 wr => ∃ i : Nat, i ≤ n ∧ s5 = .int .i64 i ∧ Hid (∀ k, k < i → PDrift.Ok1 l k) ∧ Hid (Rd wr w.heap.size A c 2 n (tcs l)) ∧ Hid (Below w.heap.size w wr)) (fun s5 _ => n - (intOf s5).toNat)
  case atStart => exact ⟨0, by omega, rfl, Lib.hid (fun k hk => absurd hk (by omega)), R0, Lib.hid (Below.refl _ _)⟩
  case round =>
    clear R0
    obtain ⟨i, hi, rfl, HG, RT, BT⟩ := hrel
    by_cases hin : i < n
    · obtain ⟨b, o, hA, hb, c1, c2⟩ := RT.out.pair hin
      subst hA
      obtain ⟨x, hx⟩ : ∃ x, x = (pr l i).1 := ⟨_, rfl⟩
      obtain ⟨y, hy⟩ : ∃ y, y = (pr l i).2 := ⟨_, rfl⟩
      rw [← hx] at c1
      rw [← hy] at c2
      have HP := Lib.hid (show pr l i = (x, y) by rw [hx, hy])
      have C1 := Lib.hid c1
      have C2 := Lib.hid c2
      clear hx hy c1 c2
      by_cases tx : PDrift.T x
      · have HX := Lib.hid (inT tx)
        by_cases ty : PDrift.T y
        · have HY := Lib.hid (inT ty)
          have HRd := Lib.hid (show PDrift.Rdg (x, y) from ⟨tx, ty⟩)
          clear tx ty
          rcases i with _ | j
          · go_wp2_with fail
-- REGION curfew/curfewref1.Fault 6 rfault6c 12
            refine Hb.begin ?_
            refine Hb.take (v := .slice (some ⟨b, o, none⟩) n c) 0 20 rfl ?_ (fun _ _ => rfl)
            refine Hb.take (v := .int .i64 (0 : Int)) 1 21 rfl ?_ (fun _ _ => rfl)
            refine Hb.take (v := .pointer (some ⟨b, o + 0 * 2, none⟩)) 2 22 rfl ?_ (fun w' hw' => by go_simp; first | done | rfl | omega | exact wrap_in (by omega) (by omega) | exact Int.tmod_eq_emod_of_nonneg (by omega) | exact Int.tdiv_eq_ediv_of_nonneg (by omega) | (simp; omega))
            refine Hb.take (v := .pointer (some ⟨b, o + 0 * 2, none⟩)) 3 23 rfl ?_ (fun w' hw' => by go_simp; first | done | rfl | omega | exact wrap_in (by omega) (by omega) | exact Int.tmod_eq_emod_of_nonneg (by omega) | exact Int.tdiv_eq_ediv_of_nonneg (by omega) | (simp; omega))
            refine Hb.take (v := .int .i64 x) 4 24 rfl ?_ (fun w' hw' => by have cc := (hw'.cell (p := ⟨b, o + 0 * 2, none⟩) hb).trans C1.out; simp only [Nat.zero_mul, Nat.add_zero] at cc; go_simp)
            refine Hb.call (f := 13) (args := #[.int .i64 x]) 5 25 rfl ?_ (run_callf Try.func13 (by kernel_rfl) (by kernel_rfl) (by simp only [List.map_toArray, List.map_cons, List.map_nil]; rfl))
            refine (rTime_c wr.drew x).mono ?_
            rw [HX.out]
            rintro e w2 ⟨rfl, rfl⟩
            refine Hb.back (Below.refl _ _) (Nat.le_refl _) ?_
            refine Hb.take (v := .bool false) 6 26 rfl ?_ (fun w' hw' => by go_simp; first | done | rfl | omega | exact wrap_in (by omega) (by omega) | exact Int.tmod_eq_emod_of_nonneg (by omega) | exact Int.tdiv_eq_ediv_of_nonneg (by omega) | (simp; omega))
            refine Hb.take (v := .bool false) 7 27 rfl ?_ (fun _ _ => rfl)
            refine Hb.take (v := .slice (some ⟨b, o, none⟩) n c) 8 28 rfl ?_ (fun _ _ => rfl)
            refine Hb.take (v := .int .i64 (0 : Int)) 9 29 rfl ?_ (fun _ _ => rfl)
            refine Hb.take (v := .pointer (some ⟨b, o + 0 * 2, none⟩)) 10 30 rfl ?_ (fun w' hw' => by go_simp; first | done | rfl | omega | exact wrap_in (by omega) (by omega) | exact Int.tmod_eq_emod_of_nonneg (by omega) | exact Int.tdiv_eq_ediv_of_nonneg (by omega) | (simp; omega))
            refine Hb.take (v := .pointer (some ⟨b, o + 0 * 2 + 1, none⟩)) 11 31 rfl ?_ (fun w' hw' => by go_simp; first | done | rfl | omega | exact wrap_in (by omega) (by omega) | exact Int.tmod_eq_emod_of_nonneg (by omega) | exact Int.tdiv_eq_ediv_of_nonneg (by omega) | (simp; omega))
            refine Hb.take (v := .int .i64 y) 12 32 rfl ?_ (fun w' hw' => by have cc := (hw'.cell (p := ⟨b, o + 0 * 2 + 1, none⟩) hb).trans C2.out; simp only [Nat.zero_mul, Nat.add_zero] at cc; go_simp)
            refine Hb.call (f := 13) (args := #[.int .i64 y]) 13 33 rfl ?_ (run_callf Try.func13 (by kernel_rfl) (by kernel_rfl) (by simp only [List.map_toArray, List.map_cons, List.map_nil]; rfl))
            refine (rTime_c wr.drew y).mono ?_
            rw [HY.out]
            rintro e w2 ⟨rfl, rfl⟩
            refine Hb.back (Below.refl _ _) (Nat.le_refl _) ?_
            refine Hb.take (v := .bool false) 14 34 rfl ?_ (fun w' hw' => by go_simp; first | done | rfl | omega | exact wrap_in (by omega) (by omega) | exact Int.tmod_eq_emod_of_nonneg (by omega) | exact Int.tdiv_eq_ediv_of_nonneg (by omega) | (simp; omega))
            refine Hb.take (v := .bool false) 15 35 rfl ?_ (fun _ _ => rfl)
            refine Hb.take (v := .bool false) 16 36 rfl ?_ (fun _ _ => rfl)
            refine Hb.take (v := .int .i64 (0 : Int)) 17 37 rfl ?_ (fun _ _ => rfl)
            refine Hb.take (v := .bool false) 18 38 rfl ?_ (fun w' hw' => by go_simp; first | done | rfl | omega | exact wrap_in (by omega) (by omega) | exact Int.tmod_eq_emod_of_nonneg (by omega) | exact Int.tdiv_eq_ediv_of_nonneg (by omega) | (simp; omega))
            refine Hb.take (v := .bool false) 19 39 rfl ?_ (fun _ _ => rfl)
            refine Hb.pass 20 40 rfl ?_
            refine Hb.pass 21 41 rfl ?_
            refine Hb.pass 22 42 rfl ?_
            refine Hb.pass 23 43 rfl ?_
            refine Hb.pass 24 44 rfl ?_
            refine Hb.pass 25 45 rfl ?_
            refine Hb.pass 26 46 rfl ?_
            refine Hb.pass 27 47 rfl ?_
            refine Hb.pass 28 48 rfl ?_
            refine Hb.pass 29 49 rfl ?_
            refine Hb.pass 30 50 rfl ?_
            refine Hb.pass 31 51 rfl ?_
            refine Hb.take (v := .bool false) 32 52 rfl ?_ (fun _ _ => rfl)
            refine Hb.take (v := .bool false) 33 53 rfl ?_ (fun _ _ => rfl)
            refine Hb.done ?_
-- END
            go_wp2_with fail
            go_roundw
            case rel => exact ⟨1, by omega, by go_num, Lib.hid (fun k hk => by
              obtain rfl : k = 0 := by omega
              exact ⟨by rw [HP.out]; exact HRd.out, fun h => absurd h (by omega)⟩), RT, Lib.hid BT.out.drew⟩
            case measure => simp [intOf]; omega
          · obtain ⟨b', o', hA', _, d1, _⟩ := RT.out.pair (i := j) (by omega)
            obtain ⟨rfl, rfl⟩ : b = b' ∧ o = o' := by simpa using hA'
            obtain ⟨x0, hx0⟩ : ∃ x0, x0 = (pr l j).1 := ⟨_, rfl⟩
            rw [← hx0] at d1
            have C0 := Lib.hid d1
            have HX0 := Lib.hid hx0
            clear d1 hx0 hA'
            by_cases hlt : x < x0
            · have e1 : decide (x < x0) = true := decide_eq_true hlt
              go_wp2_with fail
-- REGION curfew/curfewref1.Fault 6 rfault6d 14
              refine Hb.begin ?_
              refine Hb.take (v := .slice (some ⟨b, o, none⟩) n c) 0 20 rfl ?_ (fun _ _ => rfl)
              refine Hb.take (v := .int .i64 ((j + 1 : Nat) : Int)) 1 21 rfl ?_ (fun _ _ => rfl)
              refine Hb.take (v := .pointer (some ⟨b, o + (j + 1) * 2, none⟩)) 2 22 rfl ?_ (fun w' hw' => by go_simp; first | done | rfl | omega | exact wrap_in (by omega) (by omega) | exact Int.tmod_eq_emod_of_nonneg (by omega) | exact Int.tdiv_eq_ediv_of_nonneg (by omega) | (simp; omega))
              refine Hb.take (v := .pointer (some ⟨b, o + (j + 1) * 2, none⟩)) 3 23 rfl ?_ (fun w' hw' => by go_simp; first | done | rfl | omega | exact wrap_in (by omega) (by omega) | exact Int.tmod_eq_emod_of_nonneg (by omega) | exact Int.tdiv_eq_ediv_of_nonneg (by omega) | (simp; omega))
              refine Hb.take (v := .int .i64 x) 4 24 rfl ?_ (fun w' hw' => by have cc := (hw'.cell (p := ⟨b, o + (j + 1) * 2, none⟩) hb).trans C1.out; go_simp)
              refine Hb.call (f := 13) (args := #[.int .i64 x]) 5 25 rfl ?_ (run_callf Try.func13 (by kernel_rfl) (by kernel_rfl) (by simp only [List.map_toArray, List.map_cons, List.map_nil]; rfl))
              refine (rTime_c wr.drew x).mono ?_
              rw [HX.out]
              rintro e w2 ⟨rfl, rfl⟩
              refine Hb.back (Below.refl _ _) (Nat.le_refl _) ?_
              refine Hb.take (v := .bool false) 6 26 rfl ?_ (fun w' hw' => by go_simp; first | done | rfl | omega | exact wrap_in (by omega) (by omega) | exact Int.tmod_eq_emod_of_nonneg (by omega) | exact Int.tdiv_eq_ediv_of_nonneg (by omega) | (simp; omega))
              refine Hb.take (v := .bool false) 7 27 rfl ?_ (fun _ _ => rfl)
              refine Hb.take (v := .slice (some ⟨b, o, none⟩) n c) 8 28 rfl ?_ (fun _ _ => rfl)
              refine Hb.take (v := .int .i64 ((j + 1 : Nat) : Int)) 9 29 rfl ?_ (fun _ _ => rfl)
              refine Hb.take (v := .pointer (some ⟨b, o + (j + 1) * 2, none⟩)) 10 30 rfl ?_ (fun w' hw' => by go_simp; first | done | rfl | omega | exact wrap_in (by omega) (by omega) | exact Int.tmod_eq_emod_of_nonneg (by omega) | exact Int.tdiv_eq_ediv_of_nonneg (by omega) | (simp; omega))
              refine Hb.take (v := .pointer (some ⟨b, o + (j + 1) * 2 + 1, none⟩)) 11 31 rfl ?_ (fun w' hw' => by go_simp; first | done | rfl | omega | exact wrap_in (by omega) (by omega) | exact Int.tmod_eq_emod_of_nonneg (by omega) | exact Int.tdiv_eq_ediv_of_nonneg (by omega) | (simp; omega))
              refine Hb.take (v := .int .i64 y) 12 32 rfl ?_ (fun w' hw' => by have cc := (hw'.cell (p := ⟨b, o + (j + 1) * 2 + 1, none⟩) hb).trans C2.out; go_simp)
              refine Hb.call (f := 13) (args := #[.int .i64 y]) 13 33 rfl ?_ (run_callf Try.func13 (by kernel_rfl) (by kernel_rfl) (by simp only [List.map_toArray, List.map_cons, List.map_nil]; rfl))
              refine (rTime_c wr.drew y).mono ?_
              rw [HY.out]
              rintro e w2 ⟨rfl, rfl⟩
              refine Hb.back (Below.refl _ _) (Nat.le_refl _) ?_
              refine Hb.take (v := .bool false) 14 34 rfl ?_ (fun w' hw' => by go_simp; first | done | rfl | omega | exact wrap_in (by omega) (by omega) | exact Int.tmod_eq_emod_of_nonneg (by omega) | exact Int.tdiv_eq_ediv_of_nonneg (by omega) | (simp; omega))
              refine Hb.take (v := .bool false) 15 35 rfl ?_ (fun _ _ => rfl)
              refine Hb.take (v := .bool false) 16 36 rfl ?_ (fun _ _ => rfl)
              refine Hb.take (v := .int .i64 ((j + 1 : Nat) : Int)) 17 37 rfl ?_ (fun _ _ => rfl)
              refine Hb.take (v := .bool true) 18 38 rfl ?_ (fun w' hw' => by go_simp; first | done | rfl | omega | exact wrap_in (by omega) (by omega) | exact Int.tmod_eq_emod_of_nonneg (by omega) | exact Int.tdiv_eq_ediv_of_nonneg (by omega) | (simp; omega))
              refine Hb.take (v := .bool true) 19 39 rfl ?_ (fun _ _ => rfl)
              refine Hb.take (v := .slice (some ⟨b, o, none⟩) n c) 20 40 rfl ?_ (fun _ _ => rfl)
              refine Hb.take (v := .int .i64 ((j + 1 : Nat) : Int)) 21 41 rfl ?_ (fun _ _ => rfl)
              refine Hb.take (v := .pointer (some ⟨b, o + (j + 1) * 2, none⟩)) 22 42 rfl ?_ (fun w' hw' => by go_simp; first | done | rfl | omega | exact wrap_in (by omega) (by omega) | exact Int.tmod_eq_emod_of_nonneg (by omega) | exact Int.tdiv_eq_ediv_of_nonneg (by omega) | (simp; omega))
              refine Hb.take (v := .pointer (some ⟨b, o + (j + 1) * 2, none⟩)) 23 43 rfl ?_ (fun w' hw' => by go_simp; first | done | rfl | omega | exact wrap_in (by omega) (by omega) | exact Int.tmod_eq_emod_of_nonneg (by omega) | exact Int.tdiv_eq_ediv_of_nonneg (by omega) | (simp; omega))
              refine Hb.take (v := .int .i64 x) 24 44 rfl ?_ (fun w' hw' => by have cc := (hw'.cell (p := ⟨b, o + (j + 1) * 2, none⟩) hb).trans C1.out; go_simp)
              refine Hb.take (v := .slice (some ⟨b, o, none⟩) n c) 25 45 rfl ?_ (fun _ _ => rfl)
              refine Hb.take (v := .int .i64 ((j + 1 : Nat) : Int)) 26 46 rfl ?_ (fun _ _ => rfl)
              refine Hb.take (v := .int .i64 (j : Int)) 27 47 rfl ?_ (fun w' hw' => by go_simp; first | done | rfl | omega | exact wrap_in (by omega) (by omega) | exact Int.tmod_eq_emod_of_nonneg (by omega) | exact Int.tdiv_eq_ediv_of_nonneg (by omega) | (simp; omega))
              refine Hb.take (v := .pointer (some ⟨b, o + j * 2, none⟩)) 28 48 rfl ?_ (fun w' hw' => by go_simp; first | done | rfl | omega | exact wrap_in (by omega) (by omega) | exact Int.tmod_eq_emod_of_nonneg (by omega) | exact Int.tdiv_eq_ediv_of_nonneg (by omega) | (simp; omega))
              refine Hb.take (v := .pointer (some ⟨b, o + j * 2, none⟩)) 29 49 rfl ?_ (fun w' hw' => by go_simp; first | done | rfl | omega | exact wrap_in (by omega) (by omega) | exact Int.tmod_eq_emod_of_nonneg (by omega) | exact Int.tdiv_eq_ediv_of_nonneg (by omega) | (simp; omega))
              refine Hb.take (v := .int .i64 x0) 30 50 rfl ?_ (fun w' hw' => by have cc := (hw'.cell (p := ⟨b, o + j * 2, none⟩) hb).trans C0.out; go_simp)
              refine Hb.take (v := .bool true) 31 51 rfl ?_ (fun w' hw' => by go_simp; first | done | rfl | omega | exact wrap_in (by omega) (by omega) | exact Int.tmod_eq_emod_of_nonneg (by omega) | exact Int.tdiv_eq_ediv_of_nonneg (by omega) | (simp; omega))
              refine Hb.take (v := .bool true) 32 52 rfl ?_ (fun _ _ => rfl)
              refine Hb.take (v := .bool true) 33 53 rfl ?_ (fun _ _ => rfl)
              refine Hb.done ?_
-- END
              go_wp2_with fail
              go_ret
              exact ⟨by rw [PDrift.fault_bad (fun h => by
                have := (h.2 (j + 1) (by omega)).2 (by omega)
                rw [HP.out, show j + 1 - 1 = j from rfl, ← HX0.out] at this
                simp only at this; omega)]; rfl, BT.out.drew⟩
            · have e1 : decide (x < x0) = false := decide_eq_false hlt
              go_wp2_with fail
-- REGION curfew/curfewref1.Fault 6 rfault6e 14
              refine Hb.begin ?_
              refine Hb.take (v := .slice (some ⟨b, o, none⟩) n c) 0 20 rfl ?_ (fun _ _ => rfl)
              refine Hb.take (v := .int .i64 ((j + 1 : Nat) : Int)) 1 21 rfl ?_ (fun _ _ => rfl)
              refine Hb.take (v := .pointer (some ⟨b, o + (j + 1) * 2, none⟩)) 2 22 rfl ?_ (fun w' hw' => by go_simp; first | done | rfl | omega | exact wrap_in (by omega) (by omega) | exact Int.tmod_eq_emod_of_nonneg (by omega) | exact Int.tdiv_eq_ediv_of_nonneg (by omega) | (simp; omega))
              refine Hb.take (v := .pointer (some ⟨b, o + (j + 1) * 2, none⟩)) 3 23 rfl ?_ (fun w' hw' => by go_simp; first | done | rfl | omega | exact wrap_in (by omega) (by omega) | exact Int.tmod_eq_emod_of_nonneg (by omega) | exact Int.tdiv_eq_ediv_of_nonneg (by omega) | (simp; omega))
              refine Hb.take (v := .int .i64 x) 4 24 rfl ?_ (fun w' hw' => by have cc := (hw'.cell (p := ⟨b, o + (j + 1) * 2, none⟩) hb).trans C1.out; go_simp)
              refine Hb.call (f := 13) (args := #[.int .i64 x]) 5 25 rfl ?_ (run_callf Try.func13 (by kernel_rfl) (by kernel_rfl) (by simp only [List.map_toArray, List.map_cons, List.map_nil]; rfl))
              refine (rTime_c wr.drew x).mono ?_
              rw [HX.out]
              rintro e w2 ⟨rfl, rfl⟩
              refine Hb.back (Below.refl _ _) (Nat.le_refl _) ?_
              refine Hb.take (v := .bool false) 6 26 rfl ?_ (fun w' hw' => by go_simp; first | done | rfl | omega | exact wrap_in (by omega) (by omega) | exact Int.tmod_eq_emod_of_nonneg (by omega) | exact Int.tdiv_eq_ediv_of_nonneg (by omega) | (simp; omega))
              refine Hb.take (v := .bool false) 7 27 rfl ?_ (fun _ _ => rfl)
              refine Hb.take (v := .slice (some ⟨b, o, none⟩) n c) 8 28 rfl ?_ (fun _ _ => rfl)
              refine Hb.take (v := .int .i64 ((j + 1 : Nat) : Int)) 9 29 rfl ?_ (fun _ _ => rfl)
              refine Hb.take (v := .pointer (some ⟨b, o + (j + 1) * 2, none⟩)) 10 30 rfl ?_ (fun w' hw' => by go_simp; first | done | rfl | omega | exact wrap_in (by omega) (by omega) | exact Int.tmod_eq_emod_of_nonneg (by omega) | exact Int.tdiv_eq_ediv_of_nonneg (by omega) | (simp; omega))
              refine Hb.take (v := .pointer (some ⟨b, o + (j + 1) * 2 + 1, none⟩)) 11 31 rfl ?_ (fun w' hw' => by go_simp; first | done | rfl | omega | exact wrap_in (by omega) (by omega) | exact Int.tmod_eq_emod_of_nonneg (by omega) | exact Int.tdiv_eq_ediv_of_nonneg (by omega) | (simp; omega))
              refine Hb.take (v := .int .i64 y) 12 32 rfl ?_ (fun w' hw' => by have cc := (hw'.cell (p := ⟨b, o + (j + 1) * 2 + 1, none⟩) hb).trans C2.out; go_simp)
              refine Hb.call (f := 13) (args := #[.int .i64 y]) 13 33 rfl ?_ (run_callf Try.func13 (by kernel_rfl) (by kernel_rfl) (by simp only [List.map_toArray, List.map_cons, List.map_nil]; rfl))
              refine (rTime_c wr.drew y).mono ?_
              rw [HY.out]
              rintro e w2 ⟨rfl, rfl⟩
              refine Hb.back (Below.refl _ _) (Nat.le_refl _) ?_
              refine Hb.take (v := .bool false) 14 34 rfl ?_ (fun w' hw' => by go_simp; first | done | rfl | omega | exact wrap_in (by omega) (by omega) | exact Int.tmod_eq_emod_of_nonneg (by omega) | exact Int.tdiv_eq_ediv_of_nonneg (by omega) | (simp; omega))
              refine Hb.take (v := .bool false) 15 35 rfl ?_ (fun _ _ => rfl)
              refine Hb.take (v := .bool false) 16 36 rfl ?_ (fun _ _ => rfl)
              refine Hb.take (v := .int .i64 ((j + 1 : Nat) : Int)) 17 37 rfl ?_ (fun _ _ => rfl)
              refine Hb.take (v := .bool true) 18 38 rfl ?_ (fun w' hw' => by go_simp; first | done | rfl | omega | exact wrap_in (by omega) (by omega) | exact Int.tmod_eq_emod_of_nonneg (by omega) | exact Int.tdiv_eq_ediv_of_nonneg (by omega) | (simp; omega))
              refine Hb.take (v := .bool true) 19 39 rfl ?_ (fun _ _ => rfl)
              refine Hb.take (v := .slice (some ⟨b, o, none⟩) n c) 20 40 rfl ?_ (fun _ _ => rfl)
              refine Hb.take (v := .int .i64 ((j + 1 : Nat) : Int)) 21 41 rfl ?_ (fun _ _ => rfl)
              refine Hb.take (v := .pointer (some ⟨b, o + (j + 1) * 2, none⟩)) 22 42 rfl ?_ (fun w' hw' => by go_simp; first | done | rfl | omega | exact wrap_in (by omega) (by omega) | exact Int.tmod_eq_emod_of_nonneg (by omega) | exact Int.tdiv_eq_ediv_of_nonneg (by omega) | (simp; omega))
              refine Hb.take (v := .pointer (some ⟨b, o + (j + 1) * 2, none⟩)) 23 43 rfl ?_ (fun w' hw' => by go_simp; first | done | rfl | omega | exact wrap_in (by omega) (by omega) | exact Int.tmod_eq_emod_of_nonneg (by omega) | exact Int.tdiv_eq_ediv_of_nonneg (by omega) | (simp; omega))
              refine Hb.take (v := .int .i64 x) 24 44 rfl ?_ (fun w' hw' => by have cc := (hw'.cell (p := ⟨b, o + (j + 1) * 2, none⟩) hb).trans C1.out; go_simp)
              refine Hb.take (v := .slice (some ⟨b, o, none⟩) n c) 25 45 rfl ?_ (fun _ _ => rfl)
              refine Hb.take (v := .int .i64 ((j + 1 : Nat) : Int)) 26 46 rfl ?_ (fun _ _ => rfl)
              refine Hb.take (v := .int .i64 (j : Int)) 27 47 rfl ?_ (fun w' hw' => by go_simp; first | done | rfl | omega | exact wrap_in (by omega) (by omega) | exact Int.tmod_eq_emod_of_nonneg (by omega) | exact Int.tdiv_eq_ediv_of_nonneg (by omega) | (simp; omega))
              refine Hb.take (v := .pointer (some ⟨b, o + j * 2, none⟩)) 28 48 rfl ?_ (fun w' hw' => by go_simp; first | done | rfl | omega | exact wrap_in (by omega) (by omega) | exact Int.tmod_eq_emod_of_nonneg (by omega) | exact Int.tdiv_eq_ediv_of_nonneg (by omega) | (simp; omega))
              refine Hb.take (v := .pointer (some ⟨b, o + j * 2, none⟩)) 29 49 rfl ?_ (fun w' hw' => by go_simp; first | done | rfl | omega | exact wrap_in (by omega) (by omega) | exact Int.tmod_eq_emod_of_nonneg (by omega) | exact Int.tdiv_eq_ediv_of_nonneg (by omega) | (simp; omega))
              refine Hb.take (v := .int .i64 x0) 30 50 rfl ?_ (fun w' hw' => by have cc := (hw'.cell (p := ⟨b, o + j * 2, none⟩) hb).trans C0.out; go_simp)
              refine Hb.take (v := .bool false) 31 51 rfl ?_ (fun w' hw' => by go_simp; first | done | rfl | omega | exact wrap_in (by omega) (by omega) | exact Int.tmod_eq_emod_of_nonneg (by omega) | exact Int.tdiv_eq_ediv_of_nonneg (by omega) | (simp; omega))
              refine Hb.take (v := .bool false) 32 52 rfl ?_ (fun _ _ => rfl)
              refine Hb.take (v := .bool false) 33 53 rfl ?_ (fun _ _ => rfl)
              refine Hb.done ?_
-- END
              go_wp2_with fail
              go_roundw
              case rel => exact ⟨j + 1 + 1, by omega, by go_num, Lib.hid (fun k hk => by
                by_cases hk' : k < j + 1
                · exact HG.out k hk'
                · obtain rfl : k = j + 1 := by omega
                  exact ⟨by rw [HP.out]; exact HRd.out, fun _ => by rw [HP.out, show j + 1 - 1 = j from rfl, ← HX0.out]; simp only; omega⟩), RT, Lib.hid BT.out.drew⟩
              case measure => simp [intOf]; omega
        · have HY := Lib.hid (noT ty)
          have HB := Lib.hid (PDrift.fault_bad (l := l) (d := d) (fun h => by
            have := (h.2 i (by omega)).1.2
            rw [HP.out] at this
            exact ty this))
          clear tx ty
          go_wp2_with fail
-- REGION curfew/curfewref1.Fault 6 rfault6b 10
          refine Hb.begin ?_
          refine Hb.take (v := .slice (some ⟨b, o, none⟩) n c) 0 20 rfl ?_ (fun _ _ => rfl)
          refine Hb.take (v := .int .i64 (i : Int)) 1 21 rfl ?_ (fun _ _ => rfl)
          refine Hb.take (v := .pointer (some ⟨b, o + i * 2, none⟩)) 2 22 rfl ?_ (fun w' hw' => by go_simp; first | done | rfl | omega | exact wrap_in (by omega) (by omega) | exact Int.tmod_eq_emod_of_nonneg (by omega) | exact Int.tdiv_eq_ediv_of_nonneg (by omega) | (simp; omega))
          refine Hb.take (v := .pointer (some ⟨b, o + i * 2, none⟩)) 3 23 rfl ?_ (fun w' hw' => by go_simp; first | done | rfl | omega | exact wrap_in (by omega) (by omega) | exact Int.tmod_eq_emod_of_nonneg (by omega) | exact Int.tdiv_eq_ediv_of_nonneg (by omega) | (simp; omega))
          refine Hb.take (v := .int .i64 x) 4 24 rfl ?_ (fun w' hw' => by have cc := (hw'.cell (p := ⟨b, o + i * 2, none⟩) hb).trans C1.out; go_simp)
          refine Hb.call (f := 13) (args := #[.int .i64 x]) 5 25 rfl ?_ (run_callf Try.func13 (by kernel_rfl) (by kernel_rfl) (by simp only [List.map_toArray, List.map_cons, List.map_nil]; rfl))
          refine (rTime_c wr.drew x).mono ?_
          rw [HX.out]
          rintro e w2 ⟨rfl, rfl⟩
          refine Hb.back (Below.refl _ _) (Nat.le_refl _) ?_
          refine Hb.take (v := .bool false) 6 26 rfl ?_ (fun w' hw' => by go_simp; first | done | rfl | omega | exact wrap_in (by omega) (by omega) | exact Int.tmod_eq_emod_of_nonneg (by omega) | exact Int.tdiv_eq_ediv_of_nonneg (by omega) | (simp; omega))
          refine Hb.take (v := .bool false) 7 27 rfl ?_ (fun _ _ => rfl)
          refine Hb.take (v := .slice (some ⟨b, o, none⟩) n c) 8 28 rfl ?_ (fun _ _ => rfl)
          refine Hb.take (v := .int .i64 (i : Int)) 9 29 rfl ?_ (fun _ _ => rfl)
          refine Hb.take (v := .pointer (some ⟨b, o + i * 2, none⟩)) 10 30 rfl ?_ (fun w' hw' => by go_simp; first | done | rfl | omega | exact wrap_in (by omega) (by omega) | exact Int.tmod_eq_emod_of_nonneg (by omega) | exact Int.tdiv_eq_ediv_of_nonneg (by omega) | (simp; omega))
          refine Hb.take (v := .pointer (some ⟨b, o + i * 2 + 1, none⟩)) 11 31 rfl ?_ (fun w' hw' => by go_simp; first | done | rfl | omega | exact wrap_in (by omega) (by omega) | exact Int.tmod_eq_emod_of_nonneg (by omega) | exact Int.tdiv_eq_ediv_of_nonneg (by omega) | (simp; omega))
          refine Hb.take (v := .int .i64 y) 12 32 rfl ?_ (fun w' hw' => by have cc := (hw'.cell (p := ⟨b, o + i * 2 + 1, none⟩) hb).trans C2.out; go_simp)
          refine Hb.call (f := 13) (args := #[.int .i64 y]) 13 33 rfl ?_ (run_callf Try.func13 (by kernel_rfl) (by kernel_rfl) (by simp only [List.map_toArray, List.map_cons, List.map_nil]; rfl))
          refine (rTime_c wr.drew y).mono ?_
          rw [HY.out]
          rintro e w2 ⟨rfl, rfl⟩
          refine Hb.back (Below.refl _ _) (Nat.le_refl _) ?_
          refine Hb.take (v := .bool true) 14 34 rfl ?_ (fun w' hw' => by go_simp; first | done | rfl | omega | exact wrap_in (by omega) (by omega) | exact Int.tmod_eq_emod_of_nonneg (by omega) | exact Int.tdiv_eq_ediv_of_nonneg (by omega) | (simp; omega))
          refine Hb.take (v := .bool true) 15 35 rfl ?_ (fun _ _ => rfl)
          refine Hb.take (v := .bool true) 16 36 rfl ?_ (fun _ _ => rfl)
          refine Hb.pass 17 37 rfl ?_
          refine Hb.pass 18 38 rfl ?_
          refine Hb.pass 19 39 rfl ?_
          refine Hb.pass 20 40 rfl ?_
          refine Hb.pass 21 41 rfl ?_
          refine Hb.pass 22 42 rfl ?_
          refine Hb.pass 23 43 rfl ?_
          refine Hb.pass 24 44 rfl ?_
          refine Hb.pass 25 45 rfl ?_
          refine Hb.pass 26 46 rfl ?_
          refine Hb.pass 27 47 rfl ?_
          refine Hb.pass 28 48 rfl ?_
          refine Hb.pass 29 49 rfl ?_
          refine Hb.pass 30 50 rfl ?_
          refine Hb.pass 31 51 rfl ?_
          refine Hb.pass 32 52 rfl ?_
          refine Hb.take (v := .bool true) 33 53 rfl ?_ (fun _ _ => rfl)
          refine Hb.done ?_
-- END
          go_wp2_with fail
          go_ret
          exact ⟨by rw [HB.out]; rfl, BT.out.drew⟩
      · have HX := Lib.hid (noT tx)
        have HB := Lib.hid (PDrift.fault_bad (l := l) (d := d) (fun h => by
          have := (h.2 i (by omega)).1.1
          rw [HP.out] at this
          exact tx this))
        clear tx
        go_wp2_with fail
-- REGION curfew/curfewref1.Fault 6 rfault6a 8
        refine Hb.begin ?_
        refine Hb.take (v := .slice (some ⟨b, o, none⟩) n c) 0 20 rfl ?_ (fun _ _ => rfl)
        refine Hb.take (v := .int .i64 (i : Int)) 1 21 rfl ?_ (fun _ _ => rfl)
        refine Hb.take (v := .pointer (some ⟨b, o + i * 2, none⟩)) 2 22 rfl ?_ (fun w' hw' => by go_simp; first | done | rfl | omega | exact wrap_in (by omega) (by omega) | exact Int.tmod_eq_emod_of_nonneg (by omega) | exact Int.tdiv_eq_ediv_of_nonneg (by omega) | (simp; omega))
        refine Hb.take (v := .pointer (some ⟨b, o + i * 2, none⟩)) 3 23 rfl ?_ (fun w' hw' => by go_simp; first | done | rfl | omega | exact wrap_in (by omega) (by omega) | exact Int.tmod_eq_emod_of_nonneg (by omega) | exact Int.tdiv_eq_ediv_of_nonneg (by omega) | (simp; omega))
        refine Hb.take (v := .int .i64 x) 4 24 rfl ?_ (fun w' hw' => by have cc := (hw'.cell (p := ⟨b, o + i * 2, none⟩) hb).trans C1.out; go_simp)
        refine Hb.call (f := 13) (args := #[.int .i64 x]) 5 25 rfl ?_ (run_callf Try.func13 (by kernel_rfl) (by kernel_rfl) (by simp only [List.map_toArray, List.map_cons, List.map_nil]; rfl))
        refine (rTime_c wr.drew x).mono ?_
        rw [HX.out]
        rintro e w2 ⟨rfl, rfl⟩
        refine Hb.back (Below.refl _ _) (Nat.le_refl _) ?_
        refine Hb.take (v := .bool true) 6 26 rfl ?_ (fun w' hw' => by go_simp; first | done | rfl | omega | exact wrap_in (by omega) (by omega) | exact Int.tmod_eq_emod_of_nonneg (by omega) | exact Int.tdiv_eq_ediv_of_nonneg (by omega) | (simp; omega))
        refine Hb.take (v := .bool true) 7 27 rfl ?_ (fun _ _ => rfl)
        refine Hb.pass 8 28 rfl ?_
        refine Hb.pass 9 29 rfl ?_
        refine Hb.pass 10 30 rfl ?_
        refine Hb.pass 11 31 rfl ?_
        refine Hb.pass 12 32 rfl ?_
        refine Hb.pass 13 33 rfl ?_
        refine Hb.pass 14 34 rfl ?_
        refine Hb.take (v := .bool true) 15 35 rfl ?_ (fun _ _ => rfl)
        refine Hb.take (v := .bool true) 16 36 rfl ?_ (fun _ _ => rfl)
        refine Hb.pass 17 37 rfl ?_
        refine Hb.pass 18 38 rfl ?_
        refine Hb.pass 19 39 rfl ?_
        refine Hb.pass 20 40 rfl ?_
        refine Hb.pass 21 41 rfl ?_
        refine Hb.pass 22 42 rfl ?_
        refine Hb.pass 23 43 rfl ?_
        refine Hb.pass 24 44 rfl ?_
        refine Hb.pass 25 45 rfl ?_
        refine Hb.pass 26 46 rfl ?_
        refine Hb.pass 27 47 rfl ?_
        refine Hb.pass 28 48 rfl ?_
        refine Hb.pass 29 49 rfl ?_
        refine Hb.pass 30 50 rfl ?_
        refine Hb.pass 31 51 rfl ?_
        refine Hb.pass 32 52 rfl ?_
        refine Hb.take (v := .bool true) 33 53 rfl ?_ (fun _ _ => rfl)
        refine Hb.done ?_
-- END
        go_wp2_with fail
        go_ret
        exact ⟨by rw [HB.out]; rfl, BT.out.drew⟩
    · have HGood := Lib.hid (show PDrift.Good l from fun k hk => HG.out k (by omega))
      clear HG
      go_wp2_with fail
      go_loopw [6] (fun s6 wr => ∃ i : Nat, i ≤ n ∧ s6 = .int .i64 i ∧ Hid (∀ k, k < i → PDrift.Kept l d k) ∧ Hid (Rd wr w.heap.size A c 2 n (tcs l)) ∧ Hid (Below w.heap.size w wr)) (fun s6 _ => n - (intOf s6).toNat)
      case atStart => exact ⟨0, by omega, rfl, Lib.hid (fun k hk => absurd hk (by omega)), RT, BT⟩
      case round =>
        clear RT BT hin hi
        obtain ⟨i, hi, rfl, HK0, RT, BT⟩ := hrel
        by_cases hin : i < n
        · go_wp2_with fail
          go_loopw [7] (fun s7 wr => ∃ k : Nat, k ≤ i ∧ s7 = .int .i64 k ∧ Hid (∀ m, m < k → PDrift.keeps d (pr l m) (pr l i)) ∧ Hid (Rd wr w.heap.size A c 2 n (tcs l)) ∧ Hid (Below w.heap.size w wr)) (fun s7 _ => i - (intOf s7).toNat)
          case atStart => exact ⟨0, by omega, rfl, Lib.hid (fun k hk => absurd hk (by omega)), RT, BT⟩
          case round =>
            clear RT BT
            obtain ⟨k, hk, rfl, HKS, RT, BT⟩ := hrel
            by_cases hki : k < i
            · obtain ⟨b, o, hA, hb, c1, c2⟩ := RT.out.pair hin
              obtain ⟨b', o', hA', _, c3, c4⟩ := RT.out.pair (i := k) (by omega)
              subst hA
              obtain ⟨rfl, rfl⟩ : b = b' ∧ o = o' := by simpa using hA'
              have HK1 := Lib.hid (HGood.out k (by omega)).1
              have HK2 := Lib.hid (HGood.out i (by omega)).1
              have HK3 := Lib.hid (PDrift.reals HGood.out (show k ≤ i by omega) (by omega))
              have HK4 := HRate
              obtain ⟨⟨x, y⟩, hp⟩ : ∃ p, p = pr l i := ⟨_, rfl⟩
              obtain ⟨⟨x0, y0⟩, hq⟩ : ∃ p, p = pr l k := ⟨_, rfl⟩
              rw [← hp] at c1 c2 HK2 HK3
              rw [← hq] at c3 c4 HK1 HK3
              have C1 := Lib.hid c1
              have C2 := Lib.hid c2
              have C3 := Lib.hid c3
              have C4 := Lib.hid c4
              have HPQ := Lib.hid (And.intro hp hq)
              clear c1 c2 c3 c4 hp hq hA'
              by_cases hkp : PDrift.keeps d (x0, y0) (x, y)
              · have HK := Lib.hid (decide_eq_true hkp)
                have HKP := Lib.hid hkp; clear hkp
                go_wp2_with fail
-- REGION curfew/curfewref1.Fault 14 rfault14a 16
                refine Hb.begin ?_
                refine Hb.take (v := .slice (some ⟨b, o, none⟩) n c) 0 65 rfl ?_ (fun _ _ => rfl)
                refine Hb.take (v := .int .i64 (k : Int)) 1 66 rfl ?_ (fun _ _ => rfl)
                refine Hb.take (v := .pointer (some ⟨b, o + k * 2, none⟩)) 2 67 rfl ?_ (fun w' hw' => by go_simp; first | done | rfl | omega | exact wrap_in (by omega) (by omega) | exact Int.tmod_eq_emod_of_nonneg (by omega) | exact Int.tdiv_eq_ediv_of_nonneg (by omega) | (simp; omega))
                refine Hb.take (v := .agg #[.int .i64 x0, .int .i64 y0]) 3 68 rfl ?_ (fun w' hw' => by exact run_load2 Try.underlying38 rfl (by kernel_rfl) rfl ((hw'.cell (p := ⟨b, o + k * 2, none⟩) hb).trans C3.out) ((hw'.cell (p := ⟨b, o + k * 2 + 1, none⟩) hb).trans C4.out))
                refine Hb.take (v := .slice (some ⟨b, o, none⟩) n c) 4 69 rfl ?_ (fun _ _ => rfl)
                refine Hb.take (v := .int .i64 (i : Int)) 5 70 rfl ?_ (fun _ _ => rfl)
                refine Hb.take (v := .pointer (some ⟨b, o + i * 2, none⟩)) 6 71 rfl ?_ (fun w' hw' => by go_simp; first | done | rfl | omega | exact wrap_in (by omega) (by omega) | exact Int.tmod_eq_emod_of_nonneg (by omega) | exact Int.tdiv_eq_ediv_of_nonneg (by omega) | (simp; omega))
                refine Hb.take (v := .agg #[.int .i64 x, .int .i64 y]) 7 72 rfl ?_ (fun w' hw' => by exact run_load2 Try.underlying38 rfl (by kernel_rfl) rfl ((hw'.cell (p := ⟨b, o + i * 2, none⟩) hb).trans C1.out) ((hw'.cell (p := ⟨b, o + i * 2 + 1, none⟩) hb).trans C2.out))
                refine Hb.take (v := .int .i64 d) 8 73 rfl ?_ (fun _ _ => rfl)
                refine Hb.call (f := 14) (args := #[.agg #[.int .i64 x0, .int .i64 y0], .agg #[.int .i64 x, .int .i64 y], .int .i64 d]) 9 74 rfl ?_ (run_callf Try.func14 (by kernel_rfl) (by kernel_rfl) (by simp only [List.map_toArray, List.map_cons, List.map_nil]; rfl))
                refine (rKeeps_c wr.drew (x0, y0) (x, y) d HK1.out HK2.out HK3.out HK4.out).mono ?_
                rw [HK.out]
                rintro e w2 ⟨rfl, b2⟩
                refine Hb.back b2 (Nat.le_refl _) ?_
                refine Hb.take (v := .bool false) 10 75 rfl ?_ (fun w' hw' => by go_simp; first | done | rfl | omega | exact wrap_in (by omega) (by omega) | exact Int.tmod_eq_emod_of_nonneg (by omega) | exact Int.tdiv_eq_ediv_of_nonneg (by omega) | (simp; omega))
                refine Hb.done ?_
-- END
                go_wp2_with fail
                go_roundw
                case rel => exact ⟨k + 1, by omega, by go_num, Lib.hid (PDrift.all_succ.2 ⟨HKS.out, by rw [← HPQ.out.1, ← HPQ.out.2]; exact HKP.out⟩), Lib.hid (RT.out.drew.past b2), Lib.hid (BT.out.drew.trans (b2.mono BT.out.size))⟩
                case measure => simp [intOf]; omega
              · have HK := Lib.hid (decide_eq_false hkp)
                have HF := Lib.hid (PDrift.fault_some HRate.out HGood.out (show i < l.length by omega) HK0.out (fun h => hkp (by rw [HPQ.out.1, HPQ.out.2]; exact h k hki)))
                clear hkp
                go_wp2_with fail
-- REGION curfew/curfewref1.Fault 14 rfault14b 16
                refine Hb.begin ?_
                refine Hb.take (v := .slice (some ⟨b, o, none⟩) n c) 0 65 rfl ?_ (fun _ _ => rfl)
                refine Hb.take (v := .int .i64 (k : Int)) 1 66 rfl ?_ (fun _ _ => rfl)
                refine Hb.take (v := .pointer (some ⟨b, o + k * 2, none⟩)) 2 67 rfl ?_ (fun w' hw' => by go_simp; first | done | rfl | omega | exact wrap_in (by omega) (by omega) | exact Int.tmod_eq_emod_of_nonneg (by omega) | exact Int.tdiv_eq_ediv_of_nonneg (by omega) | (simp; omega))
                refine Hb.take (v := .agg #[.int .i64 x0, .int .i64 y0]) 3 68 rfl ?_ (fun w' hw' => by exact run_load2 Try.underlying38 rfl (by kernel_rfl) rfl ((hw'.cell (p := ⟨b, o + k * 2, none⟩) hb).trans C3.out) ((hw'.cell (p := ⟨b, o + k * 2 + 1, none⟩) hb).trans C4.out))
                refine Hb.take (v := .slice (some ⟨b, o, none⟩) n c) 4 69 rfl ?_ (fun _ _ => rfl)
                refine Hb.take (v := .int .i64 (i : Int)) 5 70 rfl ?_ (fun _ _ => rfl)
                refine Hb.take (v := .pointer (some ⟨b, o + i * 2, none⟩)) 6 71 rfl ?_ (fun w' hw' => by go_simp; first | done | rfl | omega | exact wrap_in (by omega) (by omega) | exact Int.tmod_eq_emod_of_nonneg (by omega) | exact Int.tdiv_eq_ediv_of_nonneg (by omega) | (simp; omega))
                refine Hb.take (v := .agg #[.int .i64 x, .int .i64 y]) 7 72 rfl ?_ (fun w' hw' => by exact run_load2 Try.underlying38 rfl (by kernel_rfl) rfl ((hw'.cell (p := ⟨b, o + i * 2, none⟩) hb).trans C1.out) ((hw'.cell (p := ⟨b, o + i * 2 + 1, none⟩) hb).trans C2.out))
                refine Hb.take (v := .int .i64 d) 8 73 rfl ?_ (fun _ _ => rfl)
                refine Hb.call (f := 14) (args := #[.agg #[.int .i64 x0, .int .i64 y0], .agg #[.int .i64 x, .int .i64 y], .int .i64 d]) 9 74 rfl ?_ (run_callf Try.func14 (by kernel_rfl) (by kernel_rfl) (by simp only [List.map_toArray, List.map_cons, List.map_nil]; rfl))
                refine (rKeeps_c wr.drew (x0, y0) (x, y) d HK1.out HK2.out HK3.out HK4.out).mono ?_
                rw [HK.out]
                rintro e w2 ⟨rfl, b2⟩
                refine Hb.back b2 (Nat.le_refl _) ?_
                refine Hb.take (v := .bool true) 10 75 rfl ?_ (fun w' hw' => by go_simp; first | done | rfl | omega | exact wrap_in (by omega) (by omega) | exact Int.tmod_eq_emod_of_nonneg (by omega) | exact Int.tdiv_eq_ediv_of_nonneg (by omega) | (simp; omega))
                refine Hb.done ?_
-- END
                go_wp2_with fail
                go_ret
                exact ⟨by rw [HF.out]; rfl, BT.out.drew.trans (b2.mono BT.out.size)⟩
            · go_wp2_with fail
              go_roundw
              case rel => exact ⟨i + 1, by omega, by go_num, Lib.hid (PDrift.all_succ.2 ⟨HK0.out, fun m hm => HKS.out m (by omega)⟩), RT, BT⟩
              case measure => simp [intOf]; omega
        · go_wp2_with fail
          go_ret
          exact ⟨by rw [PDrift.fault_none HRate.out HGood.out (fun k hk => HK0.out k (by omega))]; rfl, BT.out⟩
end Go.Proofs.Ytdlghnnflmblnaa
