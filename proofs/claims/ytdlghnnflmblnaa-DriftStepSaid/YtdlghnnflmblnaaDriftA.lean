/- Contracts of package drift, the small ones: isTime, isRate, isReading, above, markOf, keeps, with. -/
import Derived.Test.YtdlghnnflmblnaaSpanC
import Derived.Test.YtdlghnnflmblnaaPairs
import Derived.Test.YtdlghnnflmblnaaHeld
import Derived.Lib.MinMax
namespace Go.Proofs.Ytdlghnnflmblnaa
open Go.RowKit
open PDrift (pr)

theorem bel_drawn {B : Nat} {a w : World} (h : Below B a w) (n : Nat) : Below B a (w.drewN n) := ⟨h.os, h.tape, h.output, h.size, h.block⟩

theorem dTime_c (w : World) (a : Int) :
    Calls Try.prog 21 #[.int .i64 a] w fun e w' => e = .returned (.bool (decide (PDrift.T a))) ∧ w = w' := by
  have H1 := Lib.hid (show (PSpan.add a 0).2 = decide (PDrift.T a) by
    unfold PSpan.add PSpan.ans PDrift.T
    rw [show a + 0 = a by omega]
    by_cases h : -1099511627776 ≤ a ∧ a ≤ 1099511627776
    · rw [if_pos ⟨h, by omega, by omega⟩, if_pos h]; simp [h]
    · rw [if_neg (fun h' => h h'.1)]; simp [h])
  generalize decide (PDrift.T a) = t at *
  go_enter Try.func21, Try.ntmps21
  go_wp2_with fail
  refine (add_c w a 0).mono ?_
  rw [H1.out]
  rintro e w' ⟨rfl, rfl⟩
  go_wp2_with fail
  go_ret
  exact ⟨rfl, rfl⟩

theorem dRate_c (w : World) (d : Int) :
    Calls Try.prog 15 #[.int .i64 d] w fun e w' => e = .returned (.bool (decide (PDrift.Rate d))) ∧ w = w' := by
  have H1 := Lib.hid (show (PSpan.most 0 d).2 = decide (PDrift.Rate d) by
    unfold PSpan.most PDrift.Rate
    by_cases h : 0 ≤ d ∧ d ≤ 500000
    · have e : PSpan.up 0 (1000000 + d) (1000000 - d) = 0 := by
        unfold PSpan.up
        rw [Int.zero_mul]
        exact Int.ediv_eq_zero_of_lt (by omega) (by omega)
      rw [if_pos (by unfold PSpan.Ok; omega), e]; simp [h, PSpan.ans]
    · rw [if_neg (fun h' : PSpan.Ok 0 d => h h'.2.2)]; simp [h])
  generalize decide (PDrift.Rate d) = t at *
  go_enter Try.func15, Try.ntmps15
  go_wp2_with fail
  refine (Most_c w 0 d).mono ?_
  rw [H1.out]
  rintro e w' ⟨rfl, rfl⟩
  go_wp2_with fail
  go_ret
  exact ⟨rfl, rfl⟩

theorem dRdg_c (w : World) (p : Int × Int) :
    Calls Try.prog 20 #[pv p] w fun e w' => e = .returned (.bool (decide (PDrift.Rdg p))) ∧ Below w.heap.size w w' := by
  obtain ⟨x, y⟩ := p
  by_cases hx : PDrift.T x
  · have H1 := Lib.hid (decide_eq_true hx)
    have H2 := Lib.hid (show decide (PDrift.Rdg (x, y)) = decide (PDrift.T y) by simp [PDrift.Rdg, hx])
    clear hx
    show Calls _ _ #[.agg #[.int .i64 x, .int .i64 y]] _ _
    go_enter Try.func20, Try.ntmps20
    go_wp2_with fail
    refine (dTime_c _ x).mono ?_
    rw [H1.out]
    rintro e w' ⟨rfl, rfl⟩
    go_wp2_with fail
    refine (dTime_c _ y).mono ?_
    rintro e w' ⟨rfl, rfl⟩
    go_wp2_with fail
    go_ret
    exact ⟨by rw [H2.out]; rfl, (Below.refl _ _).alloc (Nat.le_refl _) _⟩
  · have H1 := Lib.hid (decide_eq_false hx)
    have H2 := Lib.hid (show decide (PDrift.Rdg (x, y)) = false by simp [PDrift.Rdg, hx])
    clear hx
    show Calls _ _ #[.agg #[.int .i64 x, .int .i64 y]] _ _
    go_enter Try.func20, Try.ntmps20
    go_wp2_with fail
    refine (dTime_c _ x).mono ?_
    rw [H1.out]
    rintro e w' ⟨rfl, rfl⟩
    go_wp2_with fail
    go_ret
    exact ⟨by rw [H2.out]; rfl, (Below.refl _ _).alloc (Nat.le_refl _) _⟩

theorem above_c (w : World) (p : Int × Int) (r : Int) (hp : PDrift.Rdg p) (h1 : 0 ≤ r) (h2 : r ≤ 1500000) :
    Calls Try.prog 24 #[pv p, .int .i64 r] w fun e w' => e = .returned (.int .i64 (p.2 * 1000000 - p.1 * r)) ∧ Below w.heap.size w w' := by
  obtain ⟨x, y⟩ := p
  obtain ⟨⟨a1, a2⟩, b1, b2⟩ := hp
  obtain ⟨m1, m2⟩ := PDrift.mul_in a1 a2 h1 h2 (by omega)
  simp only at a1 a2 b1 b2 m1 m2
  show Calls _ _ #[.agg #[.int .i64 x, .int .i64 y], _] _ _
  go_enter Try.func24, Try.ntmps24
  go_wp2_with fail
  go_ret
  exact ⟨rfl, (Below.refl _ _).alloc (Nat.le_refl _) _⟩

/-- A mark by value. -/
def mv (m : Int × Int × Int) : Value := .agg #[.int .i64 m.1, .int .i64 m.2.1, .int .i64 m.2.2]

theorem mkeeps_c (w : World) (m n : Int × Int × Int) (hm : PDrift.Bd m) (hn : PDrift.Bd n) :
    Calls Try.prog 18 #[mv m, mv n] w fun e w' => e = .returned (.bool (decide (PDrift.mkeeps m n))) ∧ Below w.heap.size w w' := by
  obtain ⟨x, y, z⟩ := m
  obtain ⟨x', y', z'⟩ := n
  obtain ⟨a1, a2, a3, a4⟩ := hm
  obtain ⟨b1, b2, b3, b4⟩ := hn
  simp only at a1 a2 a3 a4 b1 b2 b3 b4
  have e : decide (PDrift.mkeeps (x, y, z) (x', y', z')) = (decide (x ≤ x') && decide (y - 1000000 ≤ y') && decide (z' ≤ z + 1000000)) := by
    rw [Bool.eq_iff_iff]; simp only [Bool.and_eq_true, decide_eq_true_eq]; unfold PDrift.mkeeps; simp [and_assoc]
  rw [e]; clear e
  show Calls _ _ #[.agg #[.int .i64 x, .int .i64 y, .int .i64 z], .agg #[.int .i64 x', .int .i64 y', .int .i64 z']] _ _
  by_cases h1 : x ≤ x' <;> by_cases h2 : y - 1000000 ≤ y' <;> by_cases h3 : z' ≤ z + 1000000
  all_goals
    go_enter Try.func18, Try.ntmps18
    go_wp2_with fail
    go_ret
    exact ⟨by simp [h1, h2, h3], ((Below.refl _ _).alloc (Nat.le_refl _) _).alloc (by simp) _⟩

theorem mwith_c (w : World) (m n : Int × Int × Int) :
    Calls Try.prog 19 #[mv m, mv n] w fun e w' => e = .returned (mv (PDrift.mwith m n)) ∧ Below w.heap.size w w' := by
  obtain ⟨x, y, z⟩ := m
  obtain ⟨x', y', z'⟩ := n
  show Calls _ _ #[.agg #[.int .i64 x, .int .i64 y, .int .i64 z], .agg #[.int .i64 x', .int .i64 y', .int .i64 z']] _ _
  go_enter Try.func19, Try.ntmps19
  go_wp2_with fail
  refine bodyPost_ret (v := mv (PDrift.mwith (x, y, z) (x', y', z'))) (by simp [results, Try.results19, go_sem, mv, PDrift.mwith]) rfl ⟨rfl, (((Below.refl _ _).alloc (Nat.le_refl _) _).alloc (by simp) _).alloc (by simp; omega) _⟩

theorem markOf_c (w : World) (p : Int × Int) (d : Int) (hp : PDrift.Rdg p) (hd : PDrift.Rate d) :
    Calls Try.prog 17 #[pv p, .int .i64 d] w fun e w' => e = .returned (mv (PDrift.mk d p)) ∧ Below w.heap.size w w' := by
  have HP := Lib.hid hp
  obtain ⟨x, y⟩ := p
  obtain ⟨d1, d2⟩ := hd
  obtain ⟨⟨a1, a2⟩, b1, b2⟩ := hp
  simp only at a1 a2 b1 b2
  show Calls _ _ #[.agg #[.int .i64 x, .int .i64 y], _] _ _
  go_enter Try.func17, Try.ntmps17
  go_wp2_with fail
  have bel := ((Below.refl w.heap.size w).alloc (Nat.le_refl _) (.cells #[.int .i64 x, .int .i64 y] 31)).alloc (by simp) (.cells #[.int .i64 0, .int .i64 0, .int .i64 0] 42)
  have K0 := Lib.hid ((Blk.new w #[.int .i64 x, .int .i64 y] 31).alloc (.cells #[.int .i64 0, .int .i64 0, .int .i64 0] 42))
  have K1 := Blk.new (w.alloc (.cells #[.int .i64 x, .int .i64 y] 31)) #[.int .i64 0, .int .i64 0, .int .i64 0] 42
  rw [show (w.alloc (.cells #[.int .i64 x, .int .i64 y] 31)).heap.size = w.heap.size + 1 by simp] at K1
  have K1 := Lib.hid K1
  generalize (w.alloc (.cells #[.int .i64 x, .int .i64 y] 31)).alloc (.cells #[.int .i64 0, .int .i64 0, .int .i64 0] 42) = w1 at *
-- REGION curfew/drift.markOf 1 markof1 2
  refine Hb.beginB (B := w.heap.size + 1) ?_
  refine Hb.take (v := .pointer (some ⟨w.heap.size, 1, none⟩)) 0 5 rfl ?_ (fun w' hw' => by go_simp; first | done | rfl | omega | exact wrap_in (by omega) (by omega) | exact Int.tmod_eq_emod_of_nonneg (by omega) | exact Int.tdiv_eq_ediv_of_nonneg (by omega) | (simp; omega))
  refine Hb.take (v := .int .i64 y) 1 6 rfl ?_ (fun w' hw' => by have c := (hw'.cell (p := ⟨w.heap.size, 1, none⟩) (Nat.lt_succ_self _)).trans (K0.out.cell (i := 1) rfl); go_simp)
  refine Hb.take (v := .agg #[.int .i64 x, .int .i64 y]) 2 7 rfl ?_ (fun w' hw' => by exact run_load2 Try.underlying31 rfl (by kernel_rfl) rfl ((hw'.cell (p := ⟨w.heap.size, 0, none⟩) (Nat.lt_succ_self _)).trans (K0.out.cell (i := 0) rfl)) ((hw'.cell (p := ⟨w.heap.size, 0 + 1, none⟩) (Nat.lt_succ_self _)).trans (K0.out.cell (i := 1) rfl)))
  refine Hb.take (v := .int .i64 d) 3 8 rfl ?_ (fun _ _ => rfl)
  refine Hb.take (v := .int .i64 (1000000 - d)) 4 9 rfl ?_ (fun w' hw' => by go_simp; first | done | rfl | omega | exact wrap_in (by omega) (by omega) | exact Int.tmod_eq_emod_of_nonneg (by omega) | exact Int.tdiv_eq_ediv_of_nonneg (by omega) | (simp; omega))
  refine Hb.take (v := .agg #[.int .i64 x, .int .i64 y]) 6 11 rfl ?_ (fun w' hw' => by exact run_load2 Try.underlying31 rfl (by kernel_rfl) rfl ((hw'.cell (p := ⟨w.heap.size, 0, none⟩) (Nat.lt_succ_self _)).trans (K0.out.cell (i := 0) rfl)) ((hw'.cell (p := ⟨w.heap.size, 0 + 1, none⟩) (Nat.lt_succ_self _)).trans (K0.out.cell (i := 1) rfl)))
  refine Hb.take (v := .int .i64 d) 7 12 rfl ?_ (fun _ _ => rfl)
  refine Hb.take (v := .int .i64 (1000000 + d)) 8 13 rfl ?_ (fun w' hw' => by go_simp; first | done | rfl | omega | exact wrap_in (by omega) (by omega) | exact Int.tmod_eq_emod_of_nonneg (by omega) | exact Int.tdiv_eq_ediv_of_nonneg (by omega) | (simp; omega))
  refine Hb.call (f := 24) (args := #[.agg #[.int .i64 x, .int .i64 y], .int .i64 (1000000 - d)]) 5 10 rfl ?_ (run_callf Try.func24 (by kernel_rfl) (by kernel_rfl) (by simp only [List.map_toArray, List.map_cons, List.map_nil]; rfl))
  refine (above_c w1.drew (x, y) (1000000 - d) HP.out (by omega) (by omega)).mono ?_
  rintro e w2 ⟨rfl, b2⟩
  refine Hb.back (b2.mono (show w.heap.size + 1 ≤ w1.drew.heap.size from Nat.le_of_lt K1.out.lt)) (Nat.le_refl _) ?_
  refine Hb.call (f := 24) (args := #[.agg #[.int .i64 x, .int .i64 y], .int .i64 (1000000 + d)]) 9 14 rfl ?_ (run_callf Try.func24 (by kernel_rfl) (by kernel_rfl) (by simp only [List.map_toArray, List.map_cons, List.map_nil]; rfl))
  refine (above_c w2 (x, y) (1000000 + d) HP.out (by omega) (by omega)).mono ?_
  rintro e w3 ⟨rfl, b3⟩
  have hs1 : w.heap.size + 1 ≤ w1.drew.heap.size := Nat.le_of_lt K1.out.lt
  have b3' := b3.mono (Nat.le_trans hs1 b2.size)
  have K1b := Lib.hid ((K1.out.drew.past b2).past b3)
  refine Hb.back b3' (Nat.le_refl _) ?_
  refine Hb.take (v := .agg #[.int .i64 y, .int .i64 (y * 1000000 - x * (1000000 - d)), .int .i64 (y * 1000000 - x * (1000000 + d))]) 10 15 rfl ?_ (fun w' hw' => by go_simp; first | done | rfl | omega | exact wrap_in (by omega) (by omega) | exact Int.tmod_eq_emod_of_nonneg (by omega) | exact Int.tdiv_eq_ediv_of_nonneg (by omega) | (simp; omega))
  refine Hb.only 11 none rfl ?_
  refine wpList_store_row rfl 42 _ _ rfl (w.heap.size + 1) _ rfl rfl _ _ K1b.out (by kernel_rfl) (by rfl) (by kernel_rfl) ?_
  have hgr := grown_row w3 (w.heap.size + 1) #[.int .i64 y, .int .i64 (y * 1000000 - x * (1000000 - d)), .int .i64 (y * 1000000 - x * (1000000 + d))]
  have K2 := Lib.hid (K1b.out.row #[.int .i64 y, .int .i64 (y * 1000000 - x * (1000000 - d)), .int .i64 (y * 1000000 - x * (1000000 + d))])
  have hb4 := grown_below hgr (Nat.le_refl _) (Nat.le_trans hs1 (Nat.le_trans b2.size b3.size))
  have bel4 := Lib.hid ((((bel.drew.trans (b2.mono (Nat.le_trans (Nat.le_succ _) hs1))).trans (b3.mono (Nat.le_trans (Nat.le_trans (Nat.le_succ _) hs1) b2.size))).trans (hb4.mono (Nat.le_succ _))))
  refine Hb.next hb4 (Nat.le_refl _) ?_
  refine Hb.done ?_
-- END
  go_wp2_with fail
  refine bodyPost_ret (v := mv (PDrift.mk d (x, y))) (results_cell_row rfl _ _ (w.heap.size + 1) _ _ _ _ rfl K2.out Try.underlying42 rfl (by kernel_rfl)) rfl ⟨rfl, bel4.out⟩
end Go.Proofs.Ytdlghnnflmblnaa
