/- The walk of ReadyAll. -/
import Derived.Test.YthmcjehpmfebaaaReadyO
namespace Go.Proofs.Ythmcjehpmfebaaa
open Go.RowKit PReady

set_option maxHeartbeats 16000000 in
set_option maxRecDepth 100000 in
theorem ReadyAll_w (w : World) (A0 : Option Addr) (c0 n0 : Nat) (l0 : List Ent) (H00 : Rd w w.heap.size A0 c0 7 n0 (els l0)) (hok : ∀ e ∈ l0, EntOk e) (AO : Option Addr) (cO nO : Nat) (zO : List Value) (HO0 : Rd w w.heap.size AO cO 3 nO zO) (yO : AllI zO) :
    Calls Try.prog 3 #[.slice A0 n0 c0, .slice AO nO cO] w fun e w' => e = .returned (.bool true) ∧ Below w.heap.size w w' := by
  have H0 := Lib.hid H00
  have HOK := Lib.hid hok
  have HO := Lib.hid HO0
  have YO := Lib.hid yO
  have hnO : nO ≤ 9223372036854775807 := by have := HO0.le; have := HO0.cap; unfold maxLen at this; omega
  clear H00 hok HO0 yO
  go_enter Try.func3, Try.ntmps3
  go_wp2_with fail
  refine (begun_c w).mono ?_
  rintro x w1 ⟨rfl, b1⟩
  have B1 := Lib.hid b1
  clear b1
  go_wp2_with fail
  refine (lEntries_c w1 A0 c0 n0 l0 30 (H0.out.past B1.out).tight HOK.out (by decide) (by decide)).mono ?_
  rintro x w2 ⟨A2, c2, es, rfl, hlen, ho2, hsm, b2⟩
  have HES := Lib.hid (show es.length ≤ 30 by have : ((30 : Int)).toNat = 30 := rfl; omega)
  have O2 := Lib.hid (Rd.of_own ho2)
  have B2 := Lib.hid (B1.out.trans (b2.mono B1.out.size))
  clear hlen ho2 hsm b2 B1
  go_wp2_with fail
  refine (rLog_c w2 _ A2 c2 es.length es O2.out).mono ?_
  rintro x w3 ⟨A3, c3, rfl, ho3, b3⟩
  have LLH := Lib.hid (LL.log es HES.out)
  have O3 := Lib.hid (Rd.of_own ho3)
  have B3 := Lib.hid (B2.out.trans (b3.mono B2.out.size))
  clear ho3 b3 B2 O2 HES
  generalize PLog.log es = l at *
  go_wp2_with fail
  refine (New_c w3).mono ?_
  rintro x w4 ⟨rfl, q4, b4⟩
  have AZ := Lib.hid (Az.made B3.out q4 b4)
  have LI := Lib.hid (Li.made (g := w3.heap.size) (gr := w4.heap.size) O3.out (b4.alloc b4.size (.cells #[.slice none 0 0] 32)) (Nat.le_refl _) b4.size)
  clear q4 b4
  obtain ⟨g, hg⟩ : ∃ g, w3.heap.size = g := ⟨_, rfl⟩
  rw [hg] at AZ LI ⊢
  clear hg O3 B3
  have hll : (l.length : Int) ≤ 30 := by have := LLH.out.le; omega
  go_wp2_with fail
  go_loopw [9] (fun s9 wr => ∃ (i : Nat) (F FR : List Nat) (T : List Tl), s9 = .int .i64 i ∧ i ≤ nO ∧ i ≤ 30 ∧ Hid (Az w wr g F w4.heap.size FR T T) ∧ Hid (Li wr F FR A3 c3 l) ∧ Hid (T.length ≤ 30 * i)) (fun s9 _ => nO - (intOf s9).toNat)
  case atStart => exact ⟨0, [g], [w4.heap.size], [], rfl, by omega, by omega, AZ, LI, Lib.hid (by simp)⟩
  case round =>
    clear AZ LI
    obtain ⟨i, F, FR, T, rfl, hi, hi2, AZ, LI, HT⟩ := hrel
    by_cases h1 : i < nO
    · by_cases h2 : i < 30
      · have j2 : (i : Int) < 30 := by omega
        obtain ⟨b, o, x, y, t, rfl, hb, k0, k1, k2, -, -, ht⟩ := (HO.out.below AZ.out.bel).op YO.out h1
        have NO0 := Lib.hid (show wr.heap.size ∉ F ++ FR from fun hm => by
          rcases List.mem_append.1 hm with hm | hm
          · exact Nat.lt_irrefl _ (AZ.out.qu.hi _ hm)
          · exact Nat.lt_irrefl _ (AZ.out.rq.hi _ hm))
        have ba := (Below.refl wr.heap.size wr).alloc (Nat.le_refl _) (.cells #[.int .i64 x, .int .i64 y, .int .i64 t] 34)
        have AZ1 := Lib.hid (AZ.out.past ba)
        have LI1 := Lib.hid (LI.out.past ba)
        have KO := Lib.hid (Blk.new wr #[.int .i64 x, .int .i64 y, .int .i64 t] 34)
        clear hb AZ LI ba
        by_cases hl0 : l.length = 0
        · have jl : ¬ (0 : Int) < (l.length : Int) := by omega
          clear hl0
          go_wp2_with fail
          clear k0 k1 k2
          generalize hko : wr.heap.size = ko at *
          generalize (wr.alloc (.cells #[.int .i64 x, .int .i64 y, .int .i64 t] 34)) = w5 at *
          have AZ := AZ1
          have LI := LI1
          have NO := NO0
          clear AZ1 LI1 NO0
          obtain ⟨n', hn0⟩ : ∃ n' : Nat, n' = 0 := ⟨_, rfl⟩
          have hn' : n' ≤ l.length := by omega
          have hz : (0 : Int) = (n' : Int) := by omega
          rw [hz]
          clear hz hn0
          as_aux_lemma =>
            have AZ5 := Lib.hid AZ.out.drew
            have LI5 := Lib.hid LI.out.drew
            have KO5 := Lib.hid (show Blk w5.drew ko 34 _ from KO.out)
            clear AZ LI KO
            have hcut : ∀ W, (Instr.sliceAt 22 (.slice A3 l.length c3) none (some (.int .i64 (n' : Int))) none).run Try.prog W = .ok (.slice A3 n' c3) W := fun W => run_short 22 39 Try.underlying22 ent_info A3 l.length c3 n' (Nat.le_trans hn' LI5.out.rd.le)
            refine Hs.begin (F ++ FR) ?_
            refine Hs.take (v := .pointer (some ⟨g, 0, none⟩)) 0 53 rfl ?_ (fun _ _ => rfl)
            refine Hs.take (v := .slice A3 l.length c3) 1 54 rfl ?_ (fun _ _ => rfl)
            refine Hs.take (v := .int .i64 (n' : Int)) 2 55 rfl ?_ (fun _ _ => rfl)
            refine Hs.take (v := .slice A3 n' c3) 3 56 rfl ?_ (fun w' hw' => run_sliceOp (hcut _))
            refine Hs.take (v := .pointer (some ⟨ko, 1, none⟩)) 4 57 rfl ?_ (fun w' hw' => by go_simp)
            refine Hs.take (v := .int .i64 y) 5 58 rfl ?_ (fun w' hw' => run_loadInt ((KO5.out.touch hw' NO.out).cell (i := 1) rfl) rfl)
            refine Hs.take (v := .pointer (some ⟨ko, 2, none⟩)) 6 59 rfl ?_ (fun w' hw' => by go_simp)
            refine Hs.take (v := .int .i64 t) 7 60 rfl ?_ (fun w' hw' => run_loadI ((KO5.out.touch hw' NO.out).cell (i := 2) rfl) rfl)
            refine Hs.take (v := .pointer (some ⟨w4.heap.size, 0, none⟩)) 9 62 rfl ?_ (fun _ _ => rfl)
            refine Hs.take (v := .slice A3 l.length c3) 10 63 rfl ?_ (fun _ _ => rfl)
            refine Hs.take (v := .int .i64 (n' : Int)) 11 64 rfl ?_ (fun _ _ => rfl)
            refine Hs.take (v := .slice A3 n' c3) 12 65 rfl ?_ (fun w' hw' => run_sliceOp (hcut _))
            refine Hs.take (v := .pointer (some ⟨ko, 1, none⟩)) 13 66 rfl ?_ (fun w' hw' => by go_simp)
            refine Hs.take (v := .int .i64 y) 14 67 rfl ?_ (fun w' hw' => run_loadInt ((KO5.out.touch hw' NO.out).cell (i := 1) rfl) rfl)
            refine Hs.take (v := .pointer (some ⟨ko, 2, none⟩)) 15 68 rfl ?_ (fun w' hw' => by go_simp)
            refine Hs.take (v := .int .i64 t) 16 69 rfl ?_ (fun w' hw' => run_loadI ((KO5.out.touch hw' NO.out).cell (i := 2) rfl) rfl)
            refine Hs.call (f := 17) (args := #[.pointer (some ⟨g, 0, none⟩), .slice A3 n' c3, .int .i64 y, .int .i64 t]) 8 61 rfl ?_ (run_callf Try.func17 (by kernel_rfl) (by kernel_rfl) (by simp only [List.map_toArray, List.map_cons, List.map_nil]; rfl))
            refine (AZ5.out.go LI5.out LLH.out (by decide) hn' (by have := HT.out; omega) y t).mono ?_
            obtain ⟨X, hX⟩ : ∃ X, PReady.go y t T (l.take n') = X := ⟨_, rfl⟩
            have HXL := Lib.hid (show X.length ≤ 30 by rw [← hX]; have := go_len y t T (l.take n'); rw [List.length_take] at this; have := LLH.out.le; omega)
            rw [hX]
            rintro x' w6 ⟨A6, c6, F6, rfl, o6, a6, t6, s6⟩
            have LI6 := Lib.hid (LI5.out.on t6 (fun k hk => .inl hk) s6 (fun k hk => .inl hk))
            have AZ6 := Lib.hid a6
            have O6 := Lib.hid o6
            have SZ := Lib.hid t6.size
            refine Hs.back (t6.wide (fun k hk => List.mem_append_left _ hk)) ?_
            clear o6 a6 t6 s6
            refine Hs.call (f := 18) (args := #[.pointer (some ⟨w4.heap.size, 0, none⟩), .slice A3 n' c3, .int .i64 y, .int .i64 t]) 17 70 rfl ?_ (run_callf Try.func18 (by kernel_rfl) (by kernel_rfl) (by simp only [List.map_toArray, List.map_cons, List.map_nil]; rfl))
            refine (AZ6.out.rgo LI6.out LLH.out (by decide) hn' (by have := HT.out; omega) y t ht).mono ?_
            rw [hX]
            rintro x' w7 ⟨A7, c7, FR7, rfl, o7, a7, t7, s7⟩
            have LI7 := Lib.hid (LI6.out.on t7 (fun k hk => .inr hk) (fun k hk => .inl hk) s7)
            have AZ7 := Lib.hid a7
            have R7 := Lib.hid o7.rd
            have R6 := Lib.hid (O6.out.rd.touch t7 (fun hz k hk e => by
              have h1 := O6.out.low k e
              have h2 := AZ5.out.rq.hi k hk
              omega))
            refine Hs.back (t7.wide (fun k hk => List.mem_append_right _ hk)) ?_
            clear o7 a7 t7 s7
            refine Hs.call (f := 16) (args := #[.slice A6 X.length c6, .slice A7 X.length c7]) 18 71 rfl ?_ (run_callf Try.func16 (by kernel_rfl) (by kernel_rfl) (by simp only [List.map_toArray, List.map_cons, List.map_nil]; rfl))
            refine (EqTold_c w7 _ _ A6 A7 c6 c7 X.length X R6.out R7.out).mono ?_
            rintro x' w8 ⟨rfl, b8⟩
            have LI8 := Lib.hid (LI7.out.past b8)
            have AZ8 := Lib.hid (AZ7.out.past b8)
            refine Hs.back (.of_below b8) ?_
            refine Hs.take (v := .bool false) 19 72 rfl ?_ (fun w' hw' => by go_simp)
            refine Hs.done ?_
            have HT8 := Lib.hid (show (T ++ X).length ≤ 30 * (i + 1) by have := HT.out; have := HXL.out; simp only [List.length_append]; omega)
            clear b8 LI7 AZ7 R7 R6 O6 SZ LI6 AZ6 LI5 AZ5 KO5
            go_wp2_with fail
            go_roundw
            case rel => exact ⟨i + 1, F6, FR7, T ++ X, by go_num, by omega, by omega, AZ8, LI8, HT8⟩
            case measure => simp [intOf]; omega
        · have jl : (0 : Int) < (l.length : Int) := by omega
          obtain ⟨r, hr⟩ : ∃ r, Int.tmod x ((l.length : Int) + 1) = r := ⟨_, rfl⟩
          have hr1 : -((l.length : Int) + 1) < r ∧ r < (l.length : Int) + 1 := by
            have h1 := Int.tmod_lt_of_pos x (show (0 : Int) < (l.length : Int) + 1 by omega)
            have h2 := Int.lt_tmod_of_pos x (show (0 : Int) < (l.length : Int) + 1 by omega)
            omega
          obtain ⟨q, hq⟩ : ∃ q, Int.tmod (r + (l.length : Int) + 1) ((l.length : Int) + 1) = q := ⟨_, rfl⟩
          have hq1 : 0 ≤ q ∧ q < (l.length : Int) + 1 := by
            rw [← hq, Int.tmod_eq_emod_of_nonneg (by omega)]
            exact ⟨Int.emod_nonneg _ (by omega), Int.emod_lt_of_pos _ (by omega)⟩
          obtain ⟨n', rfl⟩ := Int.eq_ofNat_of_zero_le hq1.1
          have hn' : n' ≤ l.length := by omega
          have j0 : ((l.length : Int) + 1 == 0) = false := by simp; omega
          obtain ⟨hr2, hr3⟩ := hr1
          go_wp2_with fail
          clear k0 k1 k2 hq hr
          generalize hko : wr.heap.size = ko at *
          generalize (wr.alloc (.cells #[.int .i64 x, .int .i64 y, .int .i64 t] 34)) = w5 at *
          have AZ := AZ1
          have LI := LI1
          have NO := NO0
          clear AZ1 LI1 NO0
          as_aux_lemma =>
            have AZ5 := Lib.hid AZ.out.drew
            have LI5 := Lib.hid LI.out.drew
            have KO5 := Lib.hid (show Blk w5.drew ko 34 _ from KO.out)
            clear AZ LI KO
            have hcut : ∀ W, (Instr.sliceAt 22 (.slice A3 l.length c3) none (some (.int .i64 (n' : Int))) none).run Try.prog W = .ok (.slice A3 n' c3) W := fun W => run_short 22 39 Try.underlying22 ent_info A3 l.length c3 n' (Nat.le_trans hn' LI5.out.rd.le)
            refine Hs.begin (F ++ FR) ?_
            refine Hs.take (v := .pointer (some ⟨g, 0, none⟩)) 0 53 rfl ?_ (fun _ _ => rfl)
            refine Hs.take (v := .slice A3 l.length c3) 1 54 rfl ?_ (fun _ _ => rfl)
            refine Hs.take (v := .int .i64 (n' : Int)) 2 55 rfl ?_ (fun _ _ => rfl)
            refine Hs.take (v := .slice A3 n' c3) 3 56 rfl ?_ (fun w' hw' => run_sliceOp (hcut _))
            refine Hs.take (v := .pointer (some ⟨ko, 1, none⟩)) 4 57 rfl ?_ (fun w' hw' => by go_simp)
            refine Hs.take (v := .int .i64 y) 5 58 rfl ?_ (fun w' hw' => run_loadInt ((KO5.out.touch hw' NO.out).cell (i := 1) rfl) rfl)
            refine Hs.take (v := .pointer (some ⟨ko, 2, none⟩)) 6 59 rfl ?_ (fun w' hw' => by go_simp)
            refine Hs.take (v := .int .i64 t) 7 60 rfl ?_ (fun w' hw' => run_loadI ((KO5.out.touch hw' NO.out).cell (i := 2) rfl) rfl)
            refine Hs.take (v := .pointer (some ⟨w4.heap.size, 0, none⟩)) 9 62 rfl ?_ (fun _ _ => rfl)
            refine Hs.take (v := .slice A3 l.length c3) 10 63 rfl ?_ (fun _ _ => rfl)
            refine Hs.take (v := .int .i64 (n' : Int)) 11 64 rfl ?_ (fun _ _ => rfl)
            refine Hs.take (v := .slice A3 n' c3) 12 65 rfl ?_ (fun w' hw' => run_sliceOp (hcut _))
            refine Hs.take (v := .pointer (some ⟨ko, 1, none⟩)) 13 66 rfl ?_ (fun w' hw' => by go_simp)
            refine Hs.take (v := .int .i64 y) 14 67 rfl ?_ (fun w' hw' => run_loadInt ((KO5.out.touch hw' NO.out).cell (i := 1) rfl) rfl)
            refine Hs.take (v := .pointer (some ⟨ko, 2, none⟩)) 15 68 rfl ?_ (fun w' hw' => by go_simp)
            refine Hs.take (v := .int .i64 t) 16 69 rfl ?_ (fun w' hw' => run_loadI ((KO5.out.touch hw' NO.out).cell (i := 2) rfl) rfl)
            refine Hs.call (f := 17) (args := #[.pointer (some ⟨g, 0, none⟩), .slice A3 n' c3, .int .i64 y, .int .i64 t]) 8 61 rfl ?_ (run_callf Try.func17 (by kernel_rfl) (by kernel_rfl) (by simp only [List.map_toArray, List.map_cons, List.map_nil]; rfl))
            refine (AZ5.out.go LI5.out LLH.out (by decide) hn' (by have := HT.out; omega) y t).mono ?_
            obtain ⟨X, hX⟩ : ∃ X, PReady.go y t T (l.take n') = X := ⟨_, rfl⟩
            have HXL := Lib.hid (show X.length ≤ 30 by rw [← hX]; have := go_len y t T (l.take n'); rw [List.length_take] at this; have := LLH.out.le; omega)
            rw [hX]
            rintro x' w6 ⟨A6, c6, F6, rfl, o6, a6, t6, s6⟩
            have LI6 := Lib.hid (LI5.out.on t6 (fun k hk => .inl hk) s6 (fun k hk => .inl hk))
            have AZ6 := Lib.hid a6
            have O6 := Lib.hid o6
            have SZ := Lib.hid t6.size
            refine Hs.back (t6.wide (fun k hk => List.mem_append_left _ hk)) ?_
            clear o6 a6 t6 s6
            refine Hs.call (f := 18) (args := #[.pointer (some ⟨w4.heap.size, 0, none⟩), .slice A3 n' c3, .int .i64 y, .int .i64 t]) 17 70 rfl ?_ (run_callf Try.func18 (by kernel_rfl) (by kernel_rfl) (by simp only [List.map_toArray, List.map_cons, List.map_nil]; rfl))
            refine (AZ6.out.rgo LI6.out LLH.out (by decide) hn' (by have := HT.out; omega) y t ht).mono ?_
            rw [hX]
            rintro x' w7 ⟨A7, c7, FR7, rfl, o7, a7, t7, s7⟩
            have LI7 := Lib.hid (LI6.out.on t7 (fun k hk => .inr hk) (fun k hk => .inl hk) s7)
            have AZ7 := Lib.hid a7
            have R7 := Lib.hid o7.rd
            have R6 := Lib.hid (O6.out.rd.touch t7 (fun hz k hk e => by
              have h1 := O6.out.low k e
              have h2 := AZ5.out.rq.hi k hk
              omega))
            refine Hs.back (t7.wide (fun k hk => List.mem_append_right _ hk)) ?_
            clear o7 a7 t7 s7
            refine Hs.call (f := 16) (args := #[.slice A6 X.length c6, .slice A7 X.length c7]) 18 71 rfl ?_ (run_callf Try.func16 (by kernel_rfl) (by kernel_rfl) (by simp only [List.map_toArray, List.map_cons, List.map_nil]; rfl))
            refine (EqTold_c w7 _ _ A6 A7 c6 c7 X.length X R6.out R7.out).mono ?_
            rintro x' w8 ⟨rfl, b8⟩
            have LI8 := Lib.hid (LI7.out.past b8)
            have AZ8 := Lib.hid (AZ7.out.past b8)
            refine Hs.back (.of_below b8) ?_
            refine Hs.take (v := .bool false) 19 72 rfl ?_ (fun w' hw' => by go_simp)
            refine Hs.done ?_
            have HT8 := Lib.hid (show (T ++ X).length ≤ 30 * (i + 1) by have := HT.out; have := HXL.out; simp only [List.length_append]; omega)
            clear b8 LI7 AZ7 R7 R6 O6 SZ LI6 AZ6 LI5 AZ5 KO5
            go_wp2_with fail
            go_roundw
            case rel => exact ⟨i + 1, F6, FR7, T ++ X, by go_num, by omega, by omega, AZ8, LI8, HT8⟩
            case measure => simp [intOf]; omega
      · have j2 : ¬ (i : Int) < 30 := by omega
        go_wp2_with fail
        go_loopw [12] (fun s12 wr => ∃ j : Nat, s12 = .int .i64 j ∧ j ≤ l.length ∧ Hid (Az w wr g F w4.heap.size FR T T) ∧ Hid (Li wr F FR A3 c3 l)) (fun s12 _ => l.length - (intOf s12).toNat)
        case atStart => exact ⟨0, rfl, by omega, AZ, LI⟩
        case round =>
          clear AZ LI
          obtain ⟨j, rfl, hj, AZ, LI⟩ := hrel
          by_cases h3 : j < l.length
          · obtain ⟨b, o, e, rfl, hb, he, hmem, hre⟩ := LI.out.rd.entR h3
            have HRE := Lib.hid (show wr.drew.rangeAt b (o + j * 7) (ecs e) from hre)
            have HBE := Lib.hid (show b < wr.heap.size from hb)
            have HFe := Lib.hid (LLH.out.fit e hmem)
            clear hb he hmem hre
            cases hh : has T e
            · as_aux_lemma =>
                go_wp2_with fail
                refine Hb.begin ?_
                refine Hb.take (v := .pointer (some ⟨g, 0, none⟩)) 0 79 rfl ?_ (fun _ _ => rfl)
                refine Hb.take (v := .slice (some ⟨b, o, none⟩) l.length c3) 1 80 rfl ?_ (fun _ _ => rfl)
                refine Hb.take (v := .int .i64 (j : Int)) 2 81 rfl ?_ (fun _ _ => rfl)
                refine Hb.take (v := .pointer (some ⟨b, o + j * 7, none⟩)) 3 82 rfl ?_ (fun w' hw' => by go_simp; first | done | rfl | omega | (simp; omega))
                refine Hb.take (v := ev e) 4 83 rfl ?_ (fun w' hw' => run_loadE (rangeAt_below HRE.out hw' HBE.out) rfl)
                refine Hb.take (v := .pointer (some ⟨w4.heap.size, 0, none⟩)) 6 85 rfl ?_ (fun _ _ => rfl)
                refine Hb.take (v := .slice (some ⟨b, o, none⟩) l.length c3) 7 86 rfl ?_ (fun _ _ => rfl)
                refine Hb.take (v := .int .i64 (j : Int)) 8 87 rfl ?_ (fun _ _ => rfl)
                refine Hb.take (v := .pointer (some ⟨b, o + j * 7, none⟩)) 9 88 rfl ?_ (fun w' hw' => by go_simp; first | done | rfl | omega | (simp; omega))
                refine Hb.take (v := ev e) 10 89 rfl ?_ (fun w' hw' => run_loadE (rangeAt_below HRE.out hw' HBE.out) rfl)
                refine Hb.call (f := 19) (args := #[.pointer (some ⟨g, 0, none⟩), ev e]) 5 84 rfl ?_ (run_callf Try.func19 (by kernel_rfl) (by kernel_rfl) (by simp only [List.map_toArray, List.map_cons, List.map_nil]; rfl))
                refine (Has_c wr.drew g F T AZ.out.qu.drew e HFe.out).mono ?_
                rw [hh]
                rintro x wa ⟨rfl, ba⟩
                have RQa := Lib.hid (AZ.out.rq.drew.past ba)
                refine Hb.back (B' := wr.heap.size) ba (Nat.le_refl _) ?_
                refine Hb.call (f := 20) (args := #[.pointer (some ⟨w4.heap.size, 0, none⟩), ev e]) 11 90 rfl ?_ (run_callf Try.func20 (by kernel_rfl) (by kernel_rfl) (by simp only [List.map_toArray, List.map_cons, List.map_nil]; rfl))
                refine (rHasQ_c wa w4.heap.size FR T RQa.out e).mono ?_
                rw [hh]
                rintro x wb ⟨rfl, bb⟩
                refine Hb.back (B' := wr.heap.size) (bb.mono (show wr.heap.size ≤ wa.heap.size from ba.size)) (Nat.le_refl _) ?_
                refine Hb.take (v := .bool false) 12 91 rfl ?_ (fun w' hw' => by go_simp)
                refine Hb.done ?_
                have bx := (show Below wr.drew.heap.size wr.drew wb from ba.trans (bb.mono ba.size))
                have AZb := Lib.hid (AZ.out.drew.past bx)
                have LIb := Lib.hid (LI.out.drew.past bx)
                clear ba bb bx RQa AZ LI hh
                go_wp2_with fail
                go_roundw
                case rel => exact ⟨j + 1, by go_num, by omega, AZb, LIb⟩
                case measure => simp [intOf]; omega
            · as_aux_lemma =>
                go_wp2_with fail
                refine Hb.begin ?_
                refine Hb.take (v := .pointer (some ⟨g, 0, none⟩)) 0 79 rfl ?_ (fun _ _ => rfl)
                refine Hb.take (v := .slice (some ⟨b, o, none⟩) l.length c3) 1 80 rfl ?_ (fun _ _ => rfl)
                refine Hb.take (v := .int .i64 (j : Int)) 2 81 rfl ?_ (fun _ _ => rfl)
                refine Hb.take (v := .pointer (some ⟨b, o + j * 7, none⟩)) 3 82 rfl ?_ (fun w' hw' => by go_simp; first | done | rfl | omega | (simp; omega))
                refine Hb.take (v := ev e) 4 83 rfl ?_ (fun w' hw' => run_loadE (rangeAt_below HRE.out hw' HBE.out) rfl)
                refine Hb.take (v := .pointer (some ⟨w4.heap.size, 0, none⟩)) 6 85 rfl ?_ (fun _ _ => rfl)
                refine Hb.take (v := .slice (some ⟨b, o, none⟩) l.length c3) 7 86 rfl ?_ (fun _ _ => rfl)
                refine Hb.take (v := .int .i64 (j : Int)) 8 87 rfl ?_ (fun _ _ => rfl)
                refine Hb.take (v := .pointer (some ⟨b, o + j * 7, none⟩)) 9 88 rfl ?_ (fun w' hw' => by go_simp; first | done | rfl | omega | (simp; omega))
                refine Hb.take (v := ev e) 10 89 rfl ?_ (fun w' hw' => run_loadE (rangeAt_below HRE.out hw' HBE.out) rfl)
                refine Hb.call (f := 19) (args := #[.pointer (some ⟨g, 0, none⟩), ev e]) 5 84 rfl ?_ (run_callf Try.func19 (by kernel_rfl) (by kernel_rfl) (by simp only [List.map_toArray, List.map_cons, List.map_nil]; rfl))
                refine (Has_c wr.drew g F T AZ.out.qu.drew e HFe.out).mono ?_
                rw [hh]
                rintro x wa ⟨rfl, ba⟩
                have RQa := Lib.hid (AZ.out.rq.drew.past ba)
                refine Hb.back (B' := wr.heap.size) ba (Nat.le_refl _) ?_
                refine Hb.call (f := 20) (args := #[.pointer (some ⟨w4.heap.size, 0, none⟩), ev e]) 11 90 rfl ?_ (run_callf Try.func20 (by kernel_rfl) (by kernel_rfl) (by simp only [List.map_toArray, List.map_cons, List.map_nil]; rfl))
                refine (rHasQ_c wa w4.heap.size FR T RQa.out e).mono ?_
                rw [hh]
                rintro x wb ⟨rfl, bb⟩
                refine Hb.back (B' := wr.heap.size) (bb.mono (show wr.heap.size ≤ wa.heap.size from ba.size)) (Nat.le_refl _) ?_
                refine Hb.take (v := .bool false) 12 91 rfl ?_ (fun w' hw' => by go_simp)
                refine Hb.done ?_
                have bx := (show Below wr.drew.heap.size wr.drew wb from ba.trans (bb.mono ba.size))
                have AZb := Lib.hid (AZ.out.drew.past bx)
                have LIb := Lib.hid (LI.out.drew.past bx)
                clear ba bb bx RQa AZ LI hh
                go_wp2_with fail
                go_roundw
                case rel => exact ⟨j + 1, by go_num, by omega, AZb, LIb⟩
                case measure => simp [intOf]; omega
          · as_aux_lemma =>
              go_wp2_with fail
              have AZt := Lib.hid AZ.out.drew
              obtain ⟨Aq, cq, hBq, hRq, -⟩ := AZt.out.rq.open
              have HBq := Lib.hid hBq
              have HRq := Lib.hid hRq
              have LGq := Lib.hid (show w4.heap.size < wr.heap.size from hBq.lt)
              clear hBq hRq AZ LI
              refine Hb.begin ?_
              refine Hb.take (v := .pointer (some ⟨g, 0, none⟩)) 0 92 rfl ?_ (fun _ _ => rfl)
              refine Hb.take (v := .pointer (some ⟨w4.heap.size, 0, none⟩)) 2 94 rfl ?_ (fun _ _ => rfl)
              refine Hb.take (v := .pointer (some ⟨w4.heap.size, 0, none⟩)) 3 95 rfl ?_ (fun _ _ => rfl)
              refine Hb.take (v := .pointer (some ⟨w4.heap.size, 0, none⟩)) 4 96 rfl ?_ (fun w' hw' => by go_simp)
              refine Hb.take (v := .slice Aq T.length cq) 5 97 rfl ?_ (fun w' hw' => run_loadS ((HBq.out.below hw' LGq.out).cell (i := 0) rfl) rfl)
              refine Hb.call (f := 21) (args := #[.pointer (some ⟨g, 0, none⟩)]) 1 93 rfl ?_ (run_callf Try.func21 (by kernel_rfl) (by kernel_rfl) (by simp only [List.map_toArray, List.map_cons, List.map_nil]; rfl))
              refine (Told_c wr.drew g F T AZt.out.qu).mono ?_
              rintro x wa ⟨Aa, ca, rfl, oa, ba⟩
              refine Hb.back (B' := wr.heap.size) ba (Nat.le_refl _) ?_
              refine Hb.call (f := 16) (args := #[.slice Aa T.length ca, .slice Aq T.length cq]) 6 98 rfl ?_ (run_callf Try.func16 (by kernel_rfl) (by kernel_rfl) (by simp only [List.map_toArray, List.map_cons, List.map_nil]; rfl))
              refine (EqTold_c wa _ _ Aa Aq ca cq T.length T (Rd.of_own oa) (HRq.out.past ba)).mono ?_
              rintro x wb ⟨rfl, bb⟩
              refine Hb.back (B' := wr.heap.size) (bb.mono (show wr.heap.size ≤ wa.heap.size from ba.size)) (Nat.le_refl _) ?_
              refine Hb.take (v := .bool true) 7 4 rfl ?_ (fun _ _ => rfl)
              refine Hb.done ?_
              go_wp2_with fail
              go_ret
              exact ⟨rfl, AZt.out.bel.trans ((show Below wr.heap.size wr.drew wb from ba.trans (bb.mono ba.size)).mono AZt.out.bel.size)⟩
    · skip
      go_wp2_with fail
      go_loopw [12] (fun s12 wr => ∃ j : Nat, s12 = .int .i64 j ∧ j ≤ l.length ∧ Hid (Az w wr g F w4.heap.size FR T T) ∧ Hid (Li wr F FR A3 c3 l)) (fun s12 _ => l.length - (intOf s12).toNat)
      case atStart => exact ⟨0, rfl, by omega, AZ, LI⟩
      case round =>
        clear AZ LI
        obtain ⟨j, rfl, hj, AZ, LI⟩ := hrel
        by_cases h3 : j < l.length
        · obtain ⟨b, o, e, rfl, hb, he, hmem, hre⟩ := LI.out.rd.entR h3
          have HRE := Lib.hid (show wr.drew.rangeAt b (o + j * 7) (ecs e) from hre)
          have HBE := Lib.hid (show b < wr.heap.size from hb)
          have HFe := Lib.hid (LLH.out.fit e hmem)
          clear hb he hmem hre
          cases hh : has T e
          · as_aux_lemma =>
              go_wp2_with fail
              refine Hb.begin ?_
              refine Hb.take (v := .pointer (some ⟨g, 0, none⟩)) 0 79 rfl ?_ (fun _ _ => rfl)
              refine Hb.take (v := .slice (some ⟨b, o, none⟩) l.length c3) 1 80 rfl ?_ (fun _ _ => rfl)
              refine Hb.take (v := .int .i64 (j : Int)) 2 81 rfl ?_ (fun _ _ => rfl)
              refine Hb.take (v := .pointer (some ⟨b, o + j * 7, none⟩)) 3 82 rfl ?_ (fun w' hw' => by go_simp; first | done | rfl | omega | (simp; omega))
              refine Hb.take (v := ev e) 4 83 rfl ?_ (fun w' hw' => run_loadE (rangeAt_below HRE.out hw' HBE.out) rfl)
              refine Hb.take (v := .pointer (some ⟨w4.heap.size, 0, none⟩)) 6 85 rfl ?_ (fun _ _ => rfl)
              refine Hb.take (v := .slice (some ⟨b, o, none⟩) l.length c3) 7 86 rfl ?_ (fun _ _ => rfl)
              refine Hb.take (v := .int .i64 (j : Int)) 8 87 rfl ?_ (fun _ _ => rfl)
              refine Hb.take (v := .pointer (some ⟨b, o + j * 7, none⟩)) 9 88 rfl ?_ (fun w' hw' => by go_simp; first | done | rfl | omega | (simp; omega))
              refine Hb.take (v := ev e) 10 89 rfl ?_ (fun w' hw' => run_loadE (rangeAt_below HRE.out hw' HBE.out) rfl)
              refine Hb.call (f := 19) (args := #[.pointer (some ⟨g, 0, none⟩), ev e]) 5 84 rfl ?_ (run_callf Try.func19 (by kernel_rfl) (by kernel_rfl) (by simp only [List.map_toArray, List.map_cons, List.map_nil]; rfl))
              refine (Has_c wr.drew g F T AZ.out.qu.drew e HFe.out).mono ?_
              rw [hh]
              rintro x wa ⟨rfl, ba⟩
              have RQa := Lib.hid (AZ.out.rq.drew.past ba)
              refine Hb.back (B' := wr.heap.size) ba (Nat.le_refl _) ?_
              refine Hb.call (f := 20) (args := #[.pointer (some ⟨w4.heap.size, 0, none⟩), ev e]) 11 90 rfl ?_ (run_callf Try.func20 (by kernel_rfl) (by kernel_rfl) (by simp only [List.map_toArray, List.map_cons, List.map_nil]; rfl))
              refine (rHasQ_c wa w4.heap.size FR T RQa.out e).mono ?_
              rw [hh]
              rintro x wb ⟨rfl, bb⟩
              refine Hb.back (B' := wr.heap.size) (bb.mono (show wr.heap.size ≤ wa.heap.size from ba.size)) (Nat.le_refl _) ?_
              refine Hb.take (v := .bool false) 12 91 rfl ?_ (fun w' hw' => by go_simp)
              refine Hb.done ?_
              have bx := (show Below wr.drew.heap.size wr.drew wb from ba.trans (bb.mono ba.size))
              have AZb := Lib.hid (AZ.out.drew.past bx)
              have LIb := Lib.hid (LI.out.drew.past bx)
              clear ba bb bx RQa AZ LI hh
              go_wp2_with fail
              go_roundw
              case rel => exact ⟨j + 1, by go_num, by omega, AZb, LIb⟩
              case measure => simp [intOf]; omega
          · as_aux_lemma =>
              go_wp2_with fail
              refine Hb.begin ?_
              refine Hb.take (v := .pointer (some ⟨g, 0, none⟩)) 0 79 rfl ?_ (fun _ _ => rfl)
              refine Hb.take (v := .slice (some ⟨b, o, none⟩) l.length c3) 1 80 rfl ?_ (fun _ _ => rfl)
              refine Hb.take (v := .int .i64 (j : Int)) 2 81 rfl ?_ (fun _ _ => rfl)
              refine Hb.take (v := .pointer (some ⟨b, o + j * 7, none⟩)) 3 82 rfl ?_ (fun w' hw' => by go_simp; first | done | rfl | omega | (simp; omega))
              refine Hb.take (v := ev e) 4 83 rfl ?_ (fun w' hw' => run_loadE (rangeAt_below HRE.out hw' HBE.out) rfl)
              refine Hb.take (v := .pointer (some ⟨w4.heap.size, 0, none⟩)) 6 85 rfl ?_ (fun _ _ => rfl)
              refine Hb.take (v := .slice (some ⟨b, o, none⟩) l.length c3) 7 86 rfl ?_ (fun _ _ => rfl)
              refine Hb.take (v := .int .i64 (j : Int)) 8 87 rfl ?_ (fun _ _ => rfl)
              refine Hb.take (v := .pointer (some ⟨b, o + j * 7, none⟩)) 9 88 rfl ?_ (fun w' hw' => by go_simp; first | done | rfl | omega | (simp; omega))
              refine Hb.take (v := ev e) 10 89 rfl ?_ (fun w' hw' => run_loadE (rangeAt_below HRE.out hw' HBE.out) rfl)
              refine Hb.call (f := 19) (args := #[.pointer (some ⟨g, 0, none⟩), ev e]) 5 84 rfl ?_ (run_callf Try.func19 (by kernel_rfl) (by kernel_rfl) (by simp only [List.map_toArray, List.map_cons, List.map_nil]; rfl))
              refine (Has_c wr.drew g F T AZ.out.qu.drew e HFe.out).mono ?_
              rw [hh]
              rintro x wa ⟨rfl, ba⟩
              have RQa := Lib.hid (AZ.out.rq.drew.past ba)
              refine Hb.back (B' := wr.heap.size) ba (Nat.le_refl _) ?_
              refine Hb.call (f := 20) (args := #[.pointer (some ⟨w4.heap.size, 0, none⟩), ev e]) 11 90 rfl ?_ (run_callf Try.func20 (by kernel_rfl) (by kernel_rfl) (by simp only [List.map_toArray, List.map_cons, List.map_nil]; rfl))
              refine (rHasQ_c wa w4.heap.size FR T RQa.out e).mono ?_
              rw [hh]
              rintro x wb ⟨rfl, bb⟩
              refine Hb.back (B' := wr.heap.size) (bb.mono (show wr.heap.size ≤ wa.heap.size from ba.size)) (Nat.le_refl _) ?_
              refine Hb.take (v := .bool false) 12 91 rfl ?_ (fun w' hw' => by go_simp)
              refine Hb.done ?_
              have bx := (show Below wr.drew.heap.size wr.drew wb from ba.trans (bb.mono ba.size))
              have AZb := Lib.hid (AZ.out.drew.past bx)
              have LIb := Lib.hid (LI.out.drew.past bx)
              clear ba bb bx RQa AZ LI hh
              go_wp2_with fail
              go_roundw
              case rel => exact ⟨j + 1, by go_num, by omega, AZb, LIb⟩
              case measure => simp [intOf]; omega
        · as_aux_lemma =>
            go_wp2_with fail
            have AZt := Lib.hid AZ.out.drew
            obtain ⟨Aq, cq, hBq, hRq, -⟩ := AZt.out.rq.open
            have HBq := Lib.hid hBq
            have HRq := Lib.hid hRq
            have LGq := Lib.hid (show w4.heap.size < wr.heap.size from hBq.lt)
            clear hBq hRq AZ LI
            refine Hb.begin ?_
            refine Hb.take (v := .pointer (some ⟨g, 0, none⟩)) 0 92 rfl ?_ (fun _ _ => rfl)
            refine Hb.take (v := .pointer (some ⟨w4.heap.size, 0, none⟩)) 2 94 rfl ?_ (fun _ _ => rfl)
            refine Hb.take (v := .pointer (some ⟨w4.heap.size, 0, none⟩)) 3 95 rfl ?_ (fun _ _ => rfl)
            refine Hb.take (v := .pointer (some ⟨w4.heap.size, 0, none⟩)) 4 96 rfl ?_ (fun w' hw' => by go_simp)
            refine Hb.take (v := .slice Aq T.length cq) 5 97 rfl ?_ (fun w' hw' => run_loadS ((HBq.out.below hw' LGq.out).cell (i := 0) rfl) rfl)
            refine Hb.call (f := 21) (args := #[.pointer (some ⟨g, 0, none⟩)]) 1 93 rfl ?_ (run_callf Try.func21 (by kernel_rfl) (by kernel_rfl) (by simp only [List.map_toArray, List.map_cons, List.map_nil]; rfl))
            refine (Told_c wr.drew g F T AZt.out.qu).mono ?_
            rintro x wa ⟨Aa, ca, rfl, oa, ba⟩
            refine Hb.back (B' := wr.heap.size) ba (Nat.le_refl _) ?_
            refine Hb.call (f := 16) (args := #[.slice Aa T.length ca, .slice Aq T.length cq]) 6 98 rfl ?_ (run_callf Try.func16 (by kernel_rfl) (by kernel_rfl) (by simp only [List.map_toArray, List.map_cons, List.map_nil]; rfl))
            refine (EqTold_c wa _ _ Aa Aq ca cq T.length T (Rd.of_own oa) (HRq.out.past ba)).mono ?_
            rintro x wb ⟨rfl, bb⟩
            refine Hb.back (B' := wr.heap.size) (bb.mono (show wr.heap.size ≤ wa.heap.size from ba.size)) (Nat.le_refl _) ?_
            refine Hb.take (v := .bool true) 7 4 rfl ?_ (fun _ _ => rfl)
            refine Hb.done ?_
            go_wp2_with fail
            go_ret
            exact ⟨rfl, AZt.out.bel.trans ((show Below wr.heap.size wr.drew wb from ba.trans (bb.mono ba.size)).mono AZt.out.bel.size)⟩
end Go.Proofs.Ythmcjehpmfebaaa
