/- The walk of TallyAll. -/
import Derived.Test.YtkfgnnnlhpaglaaLaw5A
import Derived.Test.YtkfgnnnlhpaglaaHeld
namespace Go.Proofs.Ytkfgnnnlhpaglaa
open Go.RowKit

set_option maxHeartbeats 2000000 in
set_option maxRecDepth 100000 in
theorem TallyAll_w (w : World) (A0 : Option Addr) (c0 n0 : Nat) (l0 : List Int) (h0 : Rd w w.heap.size A0 c0 1 n0 (is l0)) :
    Calls Try.prog 3 #[.slice A0 n0 c0] w fun e w' => e = .returned (.bool true) ∧ Below w.heap.size w w' := by
  have i0 := h0.le
  have i1 := h0.cap
  unfold maxLen at i1
  go_enter Try.func3, Try.ntmps3
  go_wp2_with fail
  refine (begun_c w).mono ?_
  rintro e w1 ⟨rfl, hb1⟩
  have hsz1 := hb1.size
  go_wp2_with fail
  go_loopw [6, 7, 8, 9] (fun s6 s7 _ _ wr => ∃ (i : Nat) (z : List Int), i ≤ 100 ∧ i ≤ n0 ∧ s7 = .int .i64 i ∧ s6 = .int .i64 z.sum ∧ PTally.ok z i ∧ Tl wr w1.heap.size z ∧ Ti 32 wr (w1.heap.size + 1) z ∧ Below w.heap.size w wr) (fun _ s7 _ _ _ => 100 - (intOf s7).toNat)
  case atStart =>
    have T0 := (Ti.new w1 31).past ((Below.refl _ _).alloc (Nat.le_refl _) (.cells #[.int .i64 0, .int .i64 0, .int .i64 0, .int .i64 0, .int .i64 0, .int .i64 0, .int .i64 0, .int .i64 0, .int .i64 0, .int .i64 0, .int .i64 0, .int .i64 0, .int .i64 0, .int .i64 0, .int .i64 0, .int .i64 0] 32))
    have U0 := Ti.new (w1.alloc (.cells #[.int .i64 0, .int .i64 0, .int .i64 0, .int .i64 0, .int .i64 0, .int .i64 0, .int .i64 0, .int .i64 0, .int .i64 0, .int .i64 0, .int .i64 0, .int .i64 0, .int .i64 0, .int .i64 0, .int .i64 0, .int .i64 0] 31)) 32
    have hs : (w1.alloc (.cells #[.int .i64 0, .int .i64 0, .int .i64 0, .int .i64 0, .int .i64 0, .int .i64 0, .int .i64 0, .int .i64 0, .int .i64 0, .int .i64 0, .int .i64 0, .int .i64 0, .int .i64 0, .int .i64 0, .int .i64 0, .int .i64 0] 31)).heap.size = w1.heap.size + 1 := by simp
    rw [hs] at U0
    have hb2 := (hb1.alloc hsz1 (.cells #[.int .i64 0, .int .i64 0, .int .i64 0, .int .i64 0, .int .i64 0, .int .i64 0, .int .i64 0, .int .i64 0, .int .i64 0, .int .i64 0, .int .i64 0, .int .i64 0, .int .i64 0, .int .i64 0, .int .i64 0, .int .i64 0] 31)).alloc (by rw [hs]; omega) (.cells #[.int .i64 0, .int .i64 0, .int .i64 0, .int .i64 0, .int .i64 0, .int .i64 0, .int .i64 0, .int .i64 0, .int .i64 0, .int .i64 0, .int .i64 0, .int .i64 0, .int .i64 0, .int .i64 0, .int .i64 0, .int .i64 0] 32)
    exact ⟨0, PTally.zero, by omega, by omega, rfl, rfl, PTally.zero_ok, T0, U0, hb2⟩
  case round =>
    obtain ⟨i, z, hi, hin, rfl, rfl, hz, T, N, hbr⟩ := hrel
    have hszr := hbr.size
    have hzs := PTally.sum_nonneg hz.2.1
    have hzm := hz.2.2
    have HZ := Lib.hid hz; clear hz
    by_cases hlt : i < n0 ∧ i < 100
    · obtain ⟨q1, q2⟩ := hlt
      obtain ⟨b, o, x, rfl, hc, hd, hx⟩ := (h0.below hbr).int q1
      clear hd hx
      by_cases hm9 : x = -9
      · subst hm9
        go_wp2_with fail
        refine (tReset_c _ _ _ T _ HZ.out (by omega)).mono ?_
        rintro e w2 ⟨rfl, T2, g2⟩
        have hb2 := hbr.grown g2 hszr (fun k hk => by cases hk; exact hsz1)
        have hsz2 := hb2.size
        have N2 := N.far g2 (by omega)
        go_wp2_with (with_reducible show wpList _ _ _ ((⟨none, Op.store 32 _ _, _, _, _, _⟩ : Oper) :: _) _ _
                     go_must (refine wpList_store_row rfl 32 _ _ rfl (w1.heap.size + 1) _ rfl rfl _ _ N2.2 (by kernel_rfl) (by simp [N2.1]) (by kernel_rfl) ?_))
        have N3 : Ti 32 _ _ _ := ⟨rfl, N2.2.row ((PTally.zero.map (Value.int .i64)).toArray)⟩
        have hgr := grown_row w2 (w1.heap.size + 1) ((PTally.zero.map (Value.int .i64)).toArray)
        have T3 := T2.far hgr (by omega)
        have hb3 := hb2.grown hgr hsz2 (fun k hk => by cases hk; omega)
        go_roundw
        case rel => exact ⟨i + 1, PTally.zero, by omega, by omega, by go_num, rfl, PTally.zero_ok.more (by omega), T3, N3, hb3⟩
        case measure => simp [intOf]; omega
      · have has := PTally.add_sum HZ.out x
        have hok := PTally.add_ok HZ.out x
        have HOK := Lib.hid hok; clear hok
        cases hx : PTally.inn x
        · have e1 := PTally.add_out (z := z) hx
          have e2 := PTally.get_out (z := z) hx
          have hx' : x < 0 ∨ 16 ≤ x := by have := of_decide_eq_false hx; omega
          rw [e1] at HOK
          have E1 := Lib.hid e1; have E2 := Lib.hid e2; clear e1 e2 hx has
          rcases hx' with x0 | x0
          all_goals
            go_wp2_with fail
            refine (tAdd_c _ _ _ T _ HZ.out (by omega) x).mono ?_
            rw [E1.out, E2.out]
            rintro e w2 ⟨rfl, T2, g2⟩
            have hb2 := hbr.grown g2 hszr (fun k hk => by cases hk; exact hsz1)
            have N2 := N.far g2 (by omega)
            go_wp2_with fail
            refine (tGet_c _ _ _ T2 x).mono ?_
            rw [E2.out]
            rintro e w' ⟨rfl, rfl⟩
            go_wp2_with fail
            refine (tSum_c _ _ _ T2 _ HZ.out (by omega)).mono ?_
            rintro e w' ⟨rfl, rfl⟩
            go_wp2_with fail
            go_roundw
            case rel => exact ⟨i + 1, z, by omega, by omega, by go_num, rfl, HOK.out, T2, N2, hb2⟩
            case measure => simp [intOf]; omega
        · have e1 := PTally.get_add HZ.out hx
          rw [hx] at has
          simp only [if_true] at has
          have hx' := of_decide_eq_true hx
          obtain ⟨k, rfl⟩ := Int.eq_ofNat_of_zero_le hx'.1
          have hk : k < 16 := by omega
          have e2 : PTally.add z (k : Int) = z.set k (z.getD k 0 + 1) := by unfold PTally.add; rw [if_pos hx, Int.toNat_natCast]
          rw [Int.toNat_natCast] at e1
          have hg := PTally.getD_le HZ.out.2.1 k
          have hcv := N.cell hk
          have hfv := N.2.free k
          have hset := N.set k (z.getD k 0 + 1)
          rw [← e2] at hset
          generalize z.getD k 0 = v at *
          have E1 := Lib.hid e1; have HAS := Lib.hid has; clear e1 hx has hx' e2
          have hgr := grown_set wr (w1.heap.size + 1) k (.int .i64 (v + 1))
          have hb2 := hbr.grown hgr hszr (fun k hk => by cases hk; omega)
          have hsz2 := hb2.size
          have T2 := T.far hgr (by omega)
          go_wp2_with fail
          refine (tAdd_c _ _ _ T2 _ HZ.out (by omega) k).mono ?_
          rw [E1.out]
          rintro e w2 ⟨rfl, T3, g3⟩
          have hb3 := hb2.grown g3 hsz2 (fun k hk => by cases hk; exact hsz1)
          have N3 := hset.far g3 (by omega)
          go_wp2_with fail
          refine (tGet_c _ _ _ T3 k).mono ?_
          rw [E1.out]
          rintro e w' ⟨rfl, rfl⟩
          go_wp2_with fail
          refine (tSum_c _ _ _ T3 _ HOK.out (by omega)).mono ?_
          rw [HAS.out]
          rintro e w' ⟨rfl, rfl⟩
          go_wp2_with fail
          go_roundw
          case rel => exact ⟨i + 1, PTally.add z k, by omega, by omega, by go_num, by rw [HAS.out], HOK.out, T3, N3, hb3⟩
          case measure => simp [intOf]; omega
    · have tail : ∀ wq, Tl wq w1.heap.size z → Ti 32 wq (w1.heap.size + 1) z → Below w.heap.size w wq → True := fun _ _ _ _ => trivial
      by_cases q1 : i < n0
      all_goals
        first | have q2 : ¬ i < 100 := by omega
              | skip
        go_wp2_with fail
        go_loopw [10] (fun s10 wq => ∃ k : Nat, k ≤ 16 ∧ s10 = .int .i64 k ∧ Tl wq w1.heap.size z ∧ Ti 32 wq (w1.heap.size + 1) z ∧ Below w.heap.size w wq) (fun s10 _ => 16 - (intOf s10).toNat)
        case atStart => exact ⟨0, by omega, rfl, T, N, hbr⟩
        case round =>
          clear T N hbr hszr tail
          obtain ⟨k, hk, rfl, T, N, hbr⟩ := hrel
          by_cases hlt2 : k < 16
          · have hcv := N.cell hlt2
            have hg : PTally.get z (k : Int) = z.getD k 0 := by
              unfold PTally.get
              rw [if_pos (by simp [PTally.inn]; omega), Int.toNat_natCast]
            generalize z.getD k 0 = v at *
            have HG := Lib.hid hg; clear hg
            go_wp2_with fail
-- REGION curfew/curfewlaw5.TallyAll 25 tallyall25 12
            refine Hb.begin ?_
            refine Hb.take (v := .int .i64 (k : Nat)) 0 69 rfl ?_ (fun _ _ => rfl)
            refine Hb.take (v := .int .i64 (k : Nat)) 2 71 rfl ?_ (fun _ _ => rfl)
            refine Hb.take (v := .pointer (some ⟨w1.heap.size + 1, k, none⟩)) 3 72 rfl ?_ (fun w' hw' => by go_simp; first | done | rfl | omega | exact wrap_in (by omega) (by omega) | exact Int.tmod_eq_emod_of_nonneg (by omega) | exact Int.tdiv_eq_ediv_of_nonneg (by omega) | (simp; omega))
            refine Hb.take (v := .int .i64 v) 4 73 rfl ?_ (fun w' hw' => by have hc := (hw'.cell (p := ⟨w1.heap.size + 1, k, none⟩) N.drew.2.lt).trans hcv; go_simp)
            refine Hb.call (f := 10) (args := #[.pointer (some ⟨w1.heap.size, 0, none⟩), .int .i64 (k : Nat)]) 1 70 rfl ?_ (run_callf Try.func10 (by kernel_rfl) (by kernel_rfl) (by simp only [List.map_toArray, List.map_cons, List.map_nil]; rfl))
            refine (tGet_c _ _ _ T.drew k).mono ?_
            rw [HG.out]
            rintro e w' ⟨rfl, rfl⟩
            refine Hb.back (Below.refl _ _) (Nat.le_refl _) ?_
            refine Hb.take (v := .bool false) 5 74 rfl ?_ (fun w' hw' => by go_simp; first | done | rfl | omega | exact wrap_in (by omega) (by omega) | exact Int.tmod_eq_emod_of_nonneg (by omega) | exact Int.tdiv_eq_ediv_of_nonneg (by omega) | (simp; omega))
            refine Hb.done ?_
-- END
            go_wp2_with fail
            go_roundw
            case rel => exact ⟨k + 1, by omega, by go_num, T.drew, N.drew, hbr.drew⟩
            case measure => simp [intOf]; omega
          · obtain rfl : k = 16 := by omega
            have e1 := PTally.get_out (z := z) (k := -1) rfl
            have e2 := PTally.get_out (z := z) (k := 16) rfl
            have E1 := Lib.hid e1; have E2 := Lib.hid e2; clear e1 e2
            go_wp2_with fail
            refine (tGet_c _ _ _ T (-1)).mono ?_
            rw [E1.out]
            rintro e w' ⟨rfl, rfl⟩
            go_wp2_with fail
            refine (tGet_c _ _ _ T 16).mono ?_
            rw [E2.out]
            rintro e w' ⟨rfl, rfl⟩
            go_wp2_with fail
            go_ret
            exact ⟨rfl, hbr⟩

end Go.Proofs.Ytkfgnnnlhpaglaa
