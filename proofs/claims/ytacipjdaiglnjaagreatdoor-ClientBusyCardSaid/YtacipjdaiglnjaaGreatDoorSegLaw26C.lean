/- The walk of ClientBusy. -/
import Derived.Test.YtacipjdaiglnjaaGreatDoorSeg26
import Derived.Lib.MinMax
namespace Go.Proofs.YtacipjdaiglnjaaGreatDoor
open Go.RowKit PNode

theorem bsP_f : ∀ m : Nat, (bsP m).id = 1 ∧ (bsP m).boot = 1 ∧ (bsP m).seq = m ∧ (bsP m).pend.length = m ∧ inV (bsP m) = true
  | 0 => ⟨rfl, rfl, rfl, rfl, bg_in⟩
  | m + 1 => by
    obtain ⟨h1, h2, h3, h4, h5⟩ := bsP_f m
    refine ⟨h1, h2, ?_, ?_, h5⟩
    · show (bsP m).seq + 1 = _; rw [h3]; omega
    · show ((bsP m).pend ++ [_]).length = _; rw [List.length_append, h4]; rfl
theorem bsP_nxt (m : Nat) : PPend.nxt (bsP m).id (bsP m).boot (bsP m).seq 1 1 ⟨#[120]⟩ = ⟨1, 1, (m : Int) + 1, 1, 1, 0, ⟨#[120]⟩⟩ := by
  obtain ⟨h1, h2, h3, -⟩ := bsP_f m
  unfold PPend.nxt; rw [h1, h2, h3]
theorem bs_may {k : Int} (h1 : 1 ≤ k) (h2 : k ≤ 100) : PEnt.may ⟨1, 1, k, 1, 1, 0, ⟨#[120]⟩⟩ = true := PPend.one_may (by omega) (by omega) (by omega) (by omega) h1 (by omega)
theorem bs_cast {m : Nat} {er : Int} {p' : Np} (hm : m < 4) (h : castC (bsP m) 1 1 ⟨#[120]⟩ er p') : er = 0 ∧ p' = bsP (m + 1) := by
  obtain ⟨h1, h2, h3, h4, h5⟩ := bsP_f m
  unfold castC at h
  rw [bsP_nxt, bs_may (by omega) (by omega), h4, h5] at h
  rcases h with ⟨-, h, -⟩ | ⟨-, ⟨-, h, -⟩ | ⟨-, -, h, -⟩ | ⟨rfl, -, -, rfl⟩⟩
  · cases h
  · cases h
  · omega
  · exact ⟨rfl, rfl⟩
theorem bs_full {er : Int} {p' : Np} (h : castC (bsP 4) 1 1 ⟨#[120]⟩ er p') : er = 9 ∧ p' = bsP 4 := by
  obtain ⟨h1, h2, h3, h4, h5⟩ := bsP_f 4
  unfold castC at h
  rw [bsP_nxt, bs_may (by omega) (by omega), h4, h5] at h
  rcases h with ⟨-, h, -⟩ | ⟨-, ⟨-, h, -⟩ | ⟨rfl, -, -, rfl⟩ | ⟨-, -, h, -⟩⟩
  · cases h
  · cases h
  · exact ⟨rfl, rfl⟩
  · omega
theorem bs_ld (hr : Nr (clkP stH)) : ∀ m : Nat, Ld m (bsP m) (term0 (clkP stH) bgV2)
  | 0 => ld0 hr
  | m + 1 => (bs_ld hr m).cast _
theorem bs_silN {m i : Nat} (hm : m ≤ 4) (h : i < 3) : sil (rdN (bsP m) i) = false := by
  have := List.all_eq_true.1 (List.all_eq_true.1 bs_sil m (List.mem_range.2 (by omega))) i (List.mem_range.2 h)
  simpa using this
theorem bs_fin {m : Nat} (hm : m ≤ 4) : (rdN (bsP m) 3).pend.length = 0 ∧ (rdN (bsP m) 3).T.length = m ∧ (rdN (bsP m) 3).seq = m := by
  have := List.all_eq_true.1 bs_end m (List.mem_range.2 (by omega))
  simpa [Bool.and_eq_true, decide_eq_true_eq] using this
theorem bs_last {m j : Nat} {t : Te} (hm : m ≤ 4) (L : Ld j (rdN (bsP m) 3) t) {er : Int} {p' : Np} (h : castC (rdN (bsP m) 3) 0 0 ⟨#[121]⟩ er p') : er = 0 := by
  obtain ⟨h1, h2, h3⟩ := bs_fin hm
  have hi := L.inV
  have hm2 : PEnt.may (PPend.nxt (rdN (bsP m) 3).id (rdN (bsP m) 3).boot (rdN (bsP m) 3).seq 0 0 ⟨#[121]⟩) = true := by
    unfold PPend.nxt
    rw [L.id, L.boot, h3]
    rcases (by omega : m = 0 ∨ m = 1 ∨ m = 2 ∨ m = 3 ∨ m = 4) with rfl | rfl | rfl | rfl | rfl <;> decide +kernel
  rcases h with ⟨-, h, -⟩ | ⟨-, ⟨-, h, -⟩ | ⟨-, -, h, -⟩ | ⟨rfl, -⟩⟩
  · rw [hi] at h; cases h
  · rw [hm2] at h; cases h
  · omega
  · rfl
theorem bs_stv {m : Nat} (hm : m ≤ 4) : ∃ b1 b2 v L c T, stv (rdN (bsP m) 3) = .agg #[.bool true, .bool b1, .bool b2, .int .i64 v, .int .i64 L, .int .i64 c, .int .i64 T, .int .i64 0] := by
  have h := (bs_fin hm).1
  refine ⟨inV (rdN (bsP m) 3), gdO (rdN (bsP m) 3), vwO (rdN (bsP m) 3), (rdN (bsP m) 3).L.length, (rdN (bsP m) 3).com, (rdN (bsP m) 3).T.length, ?_⟩
  unfold stv
  rw [h]; rfl

set_option maxHeartbeats 16000000 in
set_option maxRecDepth 100000 in
theorem ClientBusy_good (w : World) (ht : Tab w) (N m l : Nat) (hN : N ≤ 12) (hm : m ≤ 4) (hml : (N ≤ 4 ∧ m = N ∧ l = 0) ∨ (4 < N ∧ m = 4 ∧ l = N - 4)) :
    Calls Tryz.prog 6 #[.int .i64 (N : Int)] w fun e w' => e = .returned (.bool true) ∧ Below w.heap.size w w' := by
  have HT := Lib.hid ht
  have HM := Lib.hid hml
  clear ht hml
  go_enter Tryz.func6, Tryz.ntmps6
  go_wp2_with fail
  refine (bgn_c w HT.out).mono ?_
  rintro e w1 ⟨rfl, b1⟩
  have T1 := Lib.hid (HT.out.past b1)
  have B1 := Lib.hid b1
  clear b1
  go_wp2_with fail
  refine (trio_c w1 T1.out).mono ?_
  rintro e w2 ⟨x, d, g, rfl, h2, hr⟩
  have H2 := Lib.hid (show La w1 w2 x d g [] (bsP 0) 0 ((0 : Nat) : Int) from h2)
  have HR := Lib.hid hr
  clear h2 hr
  go_wp2_with fail
  go_loopw [6] (fun s wr => ∃ i : Nat, s = .int .i64 (i : Int) ∧ i ≤ N ∧ ((i ≤ 4 ∧ Hid (La w1 wr x d g [] (bsP i) 0 ((0 : Nat) : Int))) ∨ (4 < i ∧ Hid (La w1 wr x d g [] (bsP 4) 0 ((i - 4 : Nat) : Int))))) (fun s _ => (N - intOf s).toNat)
  case atStart => exact ⟨0, rfl, Nat.zero_le _, .inl ⟨Nat.zero_le _, H2⟩⟩
  case round =>
    obtain ⟨i, rfl, hi, hh⟩ := hrel
    clear H2
    by_cases hlt : i < N
    · by_cases h4 : i < 4
      · have H3 : Hid (La w1 wr x d g [] (bsP i) 0 ((0 : Nat) : Int)) := by
          rcases hh with ⟨-, h⟩ | ⟨h, -⟩
          · exact h
          · omega
        clear hh
        go_wp2_with fail
        refine (H3.out.cast 1 1 ⟨#[120]⟩ (by omega) (by omega)).mono ?_
        rintro e w4 ⟨er, p', q4, rfl, h4', -⟩
        obtain ⟨rfl, rfl⟩ := bs_cast h4 q4
        have H4 := Lib.hid (show La w1 w4 x d g [] (bsP (i + 1)) 0 ((0 : Nat) : Int) from h4')
        clear q4 h4' H3
        go_wp2_with fail
        go_roundw
        case rel => exact ⟨i + 1, by go_num, by omega, .inl ⟨by omega, H4⟩⟩
        case measure => simp [intOf]; omega
      · have H3 : Hid (La w1 wr x d g [] (bsP 4) 0 ((i - 4 : Nat) : Int)) := by
          rcases hh with ⟨h, k⟩ | ⟨-, k⟩
          · obtain rfl : i = 4 := by omega
            exact k
          · exact k
        clear hh
        go_wp2_with fail
        refine (H3.out.cast 1 1 ⟨#[120]⟩ (by omega) (by omega)).mono ?_
        rintro e w4 ⟨er, p', q4, rfl, h4', -⟩
        obtain ⟨rfl, rfl⟩ := bs_full q4
        have H4 := Lib.hid (show La w1 w4 x d g [] (bsP 4) 0 ((i + 1 - 4 : Nat) : Int) by
          have e1 : ((i + 1 - 4 : Nat) : Int) = lostC ((i - 4 : Nat) : Int) 9 := by unfold lostC; rw [if_neg (by omega)]; omega
          rw [e1]; exact h4')
        clear q4 h4' H3
        go_wp2_with fail
        go_roundw
        case rel => exact ⟨i + 1, by go_num, by omega, .inr ⟨by omega, H4⟩⟩
        case measure => simp [intOf]; omega
    · obtain rfl : i = N := by omega
      have HP := Lib.hid (show La w1 wr x d g [] (rdN (bsP m) 0) 0 (l : Int) ∧ ∃ t, Ld (m + 2 * 0) (rdN (bsP m) 0) t by
        refine ⟨?_, _, bs_ld HR.out m⟩
        rcases HM.out with ⟨h5, rfl, rfl⟩ | ⟨h5, rfl, rfl⟩
        · rcases hh with ⟨-, h⟩ | ⟨h, -⟩
          · exact h.out
          · omega
        · rcases hh with ⟨h, -⟩ | ⟨-, h⟩
          · omega
          · exact h.out)
      clear hh HR hlt
      go_wp2_with fail
      go_loopw [8] (fun s wr => ∃ j : Nat, s = .int .i64 (j : Int) ∧ j ≤ 3 ∧ Hid (La w1 wr x d g [] (rdN (bsP m) j) 0 (l : Int) ∧ ∃ t, Ld (m + 2 * j) (rdN (bsP m) j) t)) (fun s _ => (3 - intOf s).toNat)
      case atStart => exact ⟨0, rfl, by omega, HP⟩
      case round =>
        obtain ⟨j, rfl, hj, H4⟩ := hrel
        clear HP
        by_cases hlt : j < 3
        · obtain ⟨H4a, t, ht⟩ := H4.out
          have hs : silent (clkP (rdN (bsP m) j)) t = false := by
            have := bs_silN hm hlt
            unfold sil at this
            rw [ht.te] at this
            exact this
          have L4 := Lib.hid ht
          have A4 := Lib.hid H4a
          have S4 := Lib.hid hs
          clear H4 H4a ht hs
          go_wp2_with fail
          refine (A4.out.tickE L4.out S4.out (by omega)).mono ?_
          rintro e w5 ⟨q, A, c, rfl, o5, hq, h5, -⟩
          have O5 := Lib.hid o5
          have A5 := Lib.hid h5
          have Q5 := Lib.hid hq
          clear o5 h5 hq A4
          go_wp2_with fail
          refine (A5.out.acks1 (L4.out.tick (by omega)) (by omega) T1.out O5.out (by rw [Q5.out]; exact led_kind _ _) (by rw [Q5.out]; exact led_num _ _ ⟨L4.out.lt.k.l0, L4.out.lt.ql⟩)).mono ?_
          rintro e w6 ⟨rfl, h6, -⟩
          have A6 := Lib.hid (show La w1 w6 x d g [] (rdN (bsP m) (j + 1)) 0 (l : Int) ∧ ∃ t, Ld (m + 2 * (j + 1)) (rdN (bsP m) (j + 1)) t from ⟨by rw [L4.out.rd_eq Q5.out] at h6; exact h6, L4.out.rd (by omega) A5.out.r⟩)
          clear h6 A5 O5 L4 Q5
          go_wp2_with fail
          go_roundw
          case rel => exact ⟨j + 1, by go_num, by omega, A6⟩
          case measure => simp [intOf]; omega
        · obtain rfl : j = 3 := by omega
          obtain ⟨A4', t, L4'⟩ := H4.out
          have A4 := Lib.hid A4'
          have L4 := Lib.hid L4'
          have em : max (0 : Int) ((i : Int) - 4) = (l : Int) := by
            rw [Int.max_def]
            rcases HM.out with ⟨h5, h6, h7⟩ | ⟨h5, h6, h7⟩ <;> split <;> omega
          have en : min (i : Int) 4 = (m : Int) := by
            rw [Int.min_def]
            rcases HM.out with ⟨h5, h6, h7⟩ | ⟨h5, h6, h7⟩ <;> split <;> omega
          have hl12 : (l : Int) ≤ 12 := by rcases HM.out with ⟨h5, h6, h7⟩ | ⟨h5, h6, h7⟩ <;> omega
          have hl0 : (0 : Int) ≤ (l : Int) := Int.natCast_nonneg l
          clear H4 A4' L4'
          go_wp2_with fail
          refine (clLost_c A4.out.cl).mono ?_
          rintro e w' ⟨rfl, rfl⟩
          obtain ⟨b1, b2, v5, L5, c5, T5, hst⟩ := bs_stv hm
          have HST := Lib.hid hst
          have hfd : ∀ W : World, (Instr.field 41 (.agg #[.bool true, .bool b1, .bool b2, .int .i64 v5, .int .i64 L5, .int .i64 c5, .int .i64 T5, .int .i64 0]) 7).run Tryz.prog W = .ok (.int .i64 0) W := fun _ => by kernel_rfl
          clear hst
          go_wp2_with fail
          refine A4.out.status.mono ?_
          rw [HST.out]
          rintro e w6 ⟨rfl, b6⟩
          have A6 := Lib.hid (A4.out.past b6)
          clear b6 A4
          go_wp2_with fail
          refine (A6.out.poll ⟨Int.le_refl _, by rw [(bs_fin hm).2.1]; omega⟩ (by rw [(bs_fin hm).2.1]; omega)).mono ?_
          rw [show ((rdN (bsP m) 3).T.drop (0 : Int).toNat).length = m from (bs_fin hm).2.1]
          rintro e w7 ⟨A7, c7, rfl, -, h7, -, -⟩
          have A7' := Lib.hid h7
          clear h7 A6
          go_wp2_with fail
          refine (A7'.out.cast 0 0 ⟨#[121]⟩ hl0 (by omega)).mono ?_
          rintro e w8 ⟨er, p8, q8, rfl, h8, -⟩
          obtain rfl := bs_last hm L4.out q8
          have B8 := Lib.hid (B1.out.trans (h8.bel.mono B1.out.size))
          clear q8 h8 A7'
          go_wp2_with fail
          go_ret
          exact ⟨rfl, B8.out⟩

set_option maxHeartbeats 4000000 in
set_option maxRecDepth 100000 in
theorem ClientBusy_bad (w : World) (ht : Tab w) (a : Int) (h : a < 0 ∨ 12 < a) :
    Calls Tryz.prog 6 #[.int .i64 a] w fun e w' => e = .returned (.bool true) ∧ Below w.heap.size w w' := by
  have HT := Lib.hid ht
  clear ht
  have h' : a < 0 ∨ (0 ≤ a ∧ 12 < a) := by omega
  clear h
  rcases h' with c | ⟨c1, c⟩
  all_goals
    go_enter Tryz.func6, Tryz.ntmps6
    go_wp2_with fail
    refine (bgn_c w HT.out).mono ?_
    rintro e w1 ⟨rfl, b1⟩
    have B1 := Lib.hid b1
    clear b1
    go_wp2_with fail
    go_ret
    exact ⟨rfl, B1.out⟩
theorem ClientBusy_w (w : World) (ht : Tab w) (a : Int) :
    Calls Tryz.prog 6 #[.int .i64 a] w fun e w' => e = .returned (.bool true) ∧ Below w.heap.size w w' := by
  by_cases h : a < 0 ∨ 12 < a
  · exact ClientBusy_bad w ht a h
  · obtain ⟨N, rfl⟩ : ∃ N : Nat, a = (N : Int) := ⟨a.toNat, by omega⟩
    by_cases h4 : N ≤ 4
    · exact ClientBusy_good w ht N N 0 (by omega) h4 (.inl ⟨h4, rfl, rfl⟩)
    · exact ClientBusy_good w ht N 4 (N - 4) (by omega) (by omega) (.inr ⟨by omega, rfl, rfl⟩)
end Go.Proofs.YtacipjdaiglnjaaGreatDoor

