/- The walk of QuorumProbes. Made by gen21d.py. -/
import Derived.Test.YtdgpjolohghboaaQuoL
import Derived.Test.YtdgpjolohghboaaHeldT
import Derived.OwnWalk
import Derived.Deep.CutRange
namespace Go.Proofs.Ytdgpjolohghboaa
open Go.RowKit PQuo

theorem long_info : (Try.prog.info? 2).map (fun i => (i.zero, i.size, i.bytes)) = some (some (.int .i64 0), 1, 8) := by kernel_rfl
theorem none7_set (k : Nat) (h : k < 7) : none7.set k 0 = none7 := (by decide : ∀ k : Fin 7, none7.set k.val 0 = none7) ⟨k, h⟩
theorem aP_zero {m : Nat} {P : List Int} {last id a : Int} (hid : PTeam.has m id = true) (h0 : P.getD (pl id) 0 = 0) (ha : 0 ≤ a) (hl : a ≤ last) : aP m P last id 0 a = P.set (pl id) a := by
  unfold aP upd okA
  rw [hid, decide_eq_true (show (0 : Int) ≤ 0 ∧ (0 : Int) ≤ 60 by omega), h0, Int.max_eq_right ha, Bool.and_self, if_pos rfl, if_pos hl]
theorem aP_over {m : Nat} {P : List Int} {last id a : Int} (hl : ¬ a ≤ last) : aP m P last id 0 a = P := by
  unfold aP
  rw [if_neg hl]
  split <;> rfl
set_option maxHeartbeats 8000000 in
set_option maxRecDepth 100000 in
theorem QuorumProbes_w (w : World) (n members probes : Int) (A : Option Addr) (cA len : Nat) (xs : List Int) (h0 : Rd w w.heap.size A cA 1 len (is xs)) :
    Calls Try.prog 5 #[.int .i64 n, .int .i64 members, .int .i64 probes, .slice A len cA] w fun e w' => e = .returned (.bool true) ∧ Below w.heap.size w w' := by
  have HR := Lib.hid h0
  have hlen : len ≤ 9223372036854775807 := by have := h0.le; have := h0.cap; unfold maxLen at this; omega
  clear h0
  obtain ⟨i0, hi, hz0, hz1, hz2⟩ := info_parts long_info
  cases hm : PTeam.most members n
  · have HM := Lib.hid hm
    clear hm
    go_enter Try.func5, Try.ntmps5
    go_wp2_with fail
    refine (begunQ_c w).mono ?_
    rintro e w1 ⟨rfl, b1⟩
    go_wp2_with fail
    refine (rtMost_c w1 members n).mono ?_
    rw [HM.out]
    rintro e w2 ⟨rfl, b2⟩
    have B2 := Lib.hid (b1.trans (b2.mono b1.size))
    clear b1 b2
    go_wp2_with fail
    go_ret
    exact ⟨rfl, B2.out⟩
  have hq0 : 0 ≤ members := by
    unfold PTeam.most PTeam.may at hm
    simp only [Bool.and_eq_true, decide_eq_true_eq] at hm
    exact hm.1.2.1
  obtain ⟨m, rfl⟩ := Int.eq_ofNat_of_zero_le hq0
  obtain ⟨h3, h7, hlt, _⟩ := most_in hm
  obtain ⟨hc0, hme⟩ := lst_head hm
  have hc7 := PTeam.cnt_le m
  have HM := Lib.hid hm
  clear hm hq0
  by_cases hp0 : probes < 0
  · go_enter Try.func5, Try.ntmps5
    go_wp2_with fail
    refine (begunQ_c w).mono ?_
    rintro e w1 ⟨rfl, b1⟩
    go_wp2_with fail
    refine (rtMost_c w1 m n).mono ?_
    rw [HM.out]
    rintro e w2 ⟨rfl, b2⟩
    have B2 := Lib.hid (b1.trans (b2.mono b1.size))
    clear b1 b2
    go_wp2_with fail
    go_ret
    exact ⟨rfl, B2.out⟩
  by_cases hp20 : 20 < probes
  · go_enter Try.func5, Try.ntmps5
    go_wp2_with fail
    refine (begunQ_c w).mono ?_
    rintro e w1 ⟨rfl, b1⟩
    go_wp2_with fail
    refine (rtMost_c w1 m n).mono ?_
    rw [HM.out]
    rintro e w2 ⟨rfl, b2⟩
    have B2 := Lib.hid (b1.trans (b2.mono b1.size))
    clear b1 b2
    go_wp2_with fail
    go_ret
    exact ⟨rfl, B2.out⟩
  obtain ⟨N, rfl⟩ := Int.eq_ofNat_of_zero_le (show 0 ≤ probes by omega)
  go_enter Try.func5, Try.ntmps5
  go_wp2_with fail
  refine (begunQ_c w).mono ?_
  rintro e w1 ⟨rfl, b1⟩
  go_wp2_with fail
  refine (rtMost_c w1 m n).mono ?_
  rw [HM.out]
  rintro e w2 ⟨rfl, b2⟩
  have B2 := Lib.hid (b1.trans (b2.mono b1.size))
  clear b1 b2
  go_wp2_with fail
  refine (rtList_c w2 m hlt).mono ?_
  rintro e w3 ⟨AL, cL, rfl, hown, b3⟩
  have B3 := Lib.hid (B2.out.trans (b3.mono B2.out.size))
  have OL := Lib.hid ((Ow.of_own hown).down (Nat.zero_le _))
  obtain ⟨bL, rfl, _, hbL⟩ := OL.out.some hc0
  have hcx := (OL.out.cell rfl (is_get _ (by rw [PTeam.lst_length]; exact hc0))).1
  obtain ⟨x, hx⟩ : ∃ x, (PTeam.lst m).getD 0 0 = x := ⟨_, rfl⟩
  rw [hx] at hcx hme
  have HX := Lib.hid hx
  have HME := Lib.hid hme
  clear hx hown b3 hme B2
  go_wp2_with fail
  refine (qnew_yes w3 n x m HM.out HME.out).mono ?_
  rintro e w4 ⟨rfl, q4, k4, b4⟩
  have S4 := Lib.hid (Sq.new B3.out q4 k4 b4)
  have O4 := Lib.hid (OL.out.past b4)
  have hb4 : bL < w4.heap.size := Nat.lt_of_lt_of_le hbL b4.size
  clear q4 k4 b4 hcx B3 OL hbL
  generalize w3.heap.size = g at *
  have hpx := (pl_in hlt HME.out).2.2.1
  rw [← none7_set (pl x) hpx] at S4
  have S5 := Lib.hid (show Sq w w4 g n x m none7 (none7.set (pl x) ((0 : Nat) : Int)) ((0 : Nat) : Int) from by
    have := S4.out
    rw [show none7.set (pl x) 0 = none7 from none7_set (pl x) hpx] at this
    have e : none7.set (pl x) ((0 : Nat) : Int) = none7 := none7_set (pl x) hpx
    rw [e]; exact this)
  clear S4
  have hb4' : bL < w4.heap.size := hb4
  go_wp2_with fail
  go_loopw [12] (fun s12 wr => ∃ i : Nat, i ≤ N ∧ s12 = .int .i64 i ∧ Hid (Sq w wr g n x m none7 (none7.set (pl x) (i : Int)) (i : Int)) ∧ Hid (Ow wr 0 3 1 (some ⟨bL, 0, none⟩) (PTeam.cnt m) cL (is (PTeam.lst m)))) (fun s12 _ => N - (intOf s12).toNat)
  case atStart => exact ⟨0, by omega, rfl, S5, O4⟩
  case round =>
    clear S5 O4
    obtain ⟨i, hiN, rfl, SR, OR⟩ := hrel
    by_cases hlt' : i < N
    · go_wp2_with fail
      refine (SR.out.next (by omega)).mono ?_
      rintro e w5 ⟨rfl, s5, t5⟩
      rw [List.set_set] at s5
      have O5 := Lib.hid (OR.out.touch t5 (fun k hk => by rw [List.mem_singleton.1 hk]; exact OR.out.ne SR.out.q (by decide)))
      have S5 := Lib.hid (show Sq w w5 g n x m none7 (none7.set (pl x) (((i + 1 : Nat)) : Int)) ((i + 1 : Nat) : Int) from s5)
      clear s5 t5
      go_wp2_with fail
      go_roundw
      case rel => exact ⟨i + 1, by omega, by go_num, S5, O5⟩
      case measure => simp [intOf]; omega
    · obtain rfl : i = N := by omega
      obtain ⟨P0, hP0⟩ : ∃ P0, none7.set (pl x) (i : Int) = P0 := ⟨_, rfl⟩
      rw [hP0] at SR
      have HP0 := Lib.hid hP0
      have hbr : bL < wr.heap.size := OR.out.hi bL rfl
      clear hP0
      go_wp2_with (at_make; go_must (refine wpList_make_full _ rfl _ _ 43 rfl wr.heap.size 2 i0 (.int .i64 0) 1 Try.underlying43 hi hz0 hz1 _ _ _ _ (PTeam.cnt m) rfl rfl rfl rfl ?b2 ?b3 (Nat.le_refl _) ?_))
      case b2 => rw [hz2]; omega
      case b3 => unfold maxLen; omega
      intro w5 own5 grow5
      obtain ⟨Z, hB5⟩ := made_blk own5
      have b5 : Below wr.heap.size wr w5 := (Below.refl _ _).grown grow5 (Nat.le_refl _) (fun k h => by cases h)
      have M5 := Lib.hid (show Mq 2 w w5 g wr.heap.size n x m none7 P0 i (List.replicate (PTeam.cnt m) 0) Z (some ⟨bL, 0, none⟩) cL from
        ⟨SR.out.past b5, hB5, SR.out.bel.size, OR.out.past b5, by simpa [bk] using Nat.ne_of_lt hbr, List.length_replicate .., by decide⟩)
      clear own5 grow5 hB5 b5 SR OR hi hz0 hz1 hz2
      generalize wr.heap.size = gB at *
      clear hbr hb4 hb4'
      have cW := M5.out.at_ hc0
      have fW := M5.out.r.free 0
      have M6 := Lib.hid (M5.out.put hc0 (i : Int))
      have EV := Lib.hid (show (List.replicate (PTeam.cnt m) 0).set 0 (i : Int) = vals m P0 by
        have := vals_set hlt (H := none7) rfl hc0 (i : Int)
        rw [HX.out, HP0.out, vals_none m hlt] at this
        exact this.symm)
      rw [EV.out] at M6
      have HZ0 := Lib.hid (show ∀ j, 1 ≤ j → j < PTeam.cnt m → (vals m P0).getD j 0 = 0 from fun j h1 hj => by
        rw [← EV.out, getD_set _ _ _ _ (by rw [List.length_replicate]; exact hc0), if_neg (by omega), List.getD_eq_getElem?_getD, List.getElem?_replicate]; split <;> rfl)
      go_wp2_with fail
      clear cW fW M5
      generalize w5.setCell ⟨gB, 0, none⟩ (.int .i64 (i : Int)) = w6 at *
      go_loopw [14] (fun s14 wr => ∃ (k : Nat) (H P : List Int), k + 1 ≤ PTeam.cnt m ∧ s14 = .int .i64 ((k : Int) + 1) ∧ Hid (Mq 2 w wr g gB n x m H P i (vals m P) Z (some ⟨bL, 0, none⟩) cL) ∧ Hid (∀ j, k + 1 ≤ j → j < PTeam.cnt m → (vals m P).getD j 0 = 0)) (fun s14 _ => PTeam.cnt m - (intOf s14).toNat)
      case atStart => exact ⟨0, none7, P0, by omega, rfl, M6, HZ0⟩
      case round =>
        clear M6 HZ0 EV HP0
        obtain ⟨k, H, P, hkm, rfl, MR, HZR⟩ := hrel
        go_upto_region 16 with fail
        go_cut [68] from 59 to 68 (fun s68 wx => s68 = .bool (decide (k + 1 < PTeam.cnt m ∧ k < len)) ∧ wr = wx)
        case first =>
          by_cases c1 : k + 1 < PTeam.cnt m
          · have j1 : (k : Int) + 1 < (PTeam.cnt m : Int) := by omega
            by_cases c2 : k < len
            · have j2 : (k : Int) + 1 ≤ (len : Int) := by omega
              go_wp2_with fail
              go_meet
              case rel => exact ⟨by rw [decide_eq_true ⟨c1, c2⟩], rfl⟩
            · have j2 : ¬ (k : Int) + 1 ≤ (len : Int) := by omega
              go_wp2_with fail
              go_meet
              case rel => exact ⟨by rw [decide_eq_false (fun h => c2 h.2)], rfl⟩
          · have j1 : ¬ (k : Int) + 1 < (PTeam.cnt m : Int) := by omega
            go_wp2_with fail
            go_meet
            case rel => exact ⟨by rw [decide_eq_false (fun h => c1 h.1)], rfl⟩
        case rest =>
          obtain ⟨rfl, rfl⟩ := hcut
          by_cases hc : k + 1 < PTeam.cnt m ∧ k < len
          · rw [decide_eq_true hc]
            obtain ⟨hi', hl'⟩ := hc
            obtain ⟨bA, oA, y, rfl, hcA, -, hy⟩ := (HR.out.below MR.out.s.bel).int hl'
            clear hy
            obtain ⟨v, r, v0, v30, hr1, ra, rb, hr2⟩ := tmod_inQ y (n := 30) (by omega)
            obtain ⟨id, hid⟩ : ∃ id, (PTeam.lst m).getD (k + 1) 0 = id := ⟨_, rfl⟩
            have hhas : PTeam.has m id = true := by rw [← hid]; exact lst_at hlt hi'
            have HHAS := Lib.hid hhas
            have HOK := Lib.hid (show okA m id 0 = true by unfold okA; rw [hhas, decide_eq_true (show (0 : Int) ≤ 0 ∧ (0 : Int) ≤ 60 by omega)]; rfl)
            have h0i := HZR.out (k + 1) (Nat.le_refl _) hi'
            rw [vals_at _ hi', hid] at h0i
            have H0I := Lib.hid h0i
            have HID := Lib.hid hid
            have cL1 := (MR.out.l.cell rfl (is_get _ (by rw [PTeam.lst_length]; exact hi'))).1
            rw [hid] at cL1
            clear hid hhas h0i
            go_wp2_with fail
            refine (MR.out.s.ack id 0 v).mono ?_
            rw [HOK.out]
            rintro e w7 ⟨rfl, s7, t7⟩
            have M7 := Lib.hid (MR.out.go s7 t7)
            clear s7 t7 cL1 hcA
            by_cases hv : v ≤ (i : Int)
            · have M8 := Lib.hid (M7.out.put hi' v)
              have EV := Lib.hid (show vals m (aP m P i id 0 v) = (vals m P).set (k + 1) v by
                rw [aP_zero HHAS.out H0I.out v0 hv, ← HID.out, vals_set hlt MR.out.s.k.p.len hi'])
              rw [← EV.out] at M8
              have HZ2 := Lib.hid (show ∀ j, k + 1 + 1 ≤ j → j < PTeam.cnt m → (vals m (aP m P i id 0 v)).getD j 0 = 0 from fun j h1 h2 => by
                rw [EV.out, getD_set _ _ _ _ (by rw [vals_len]; exact hi'), if_neg (by omega)]
                exact HZR.out j (by omega) h2)
              have cW := M7.out.at_ hi'
              have fW := M7.out.r.free (k + 1)
              go_wp2_with fail
              go_roundw
              case rel => exact ⟨k + 1, _, _, by omega, by go_num, M8, HZ2⟩
              case measure => simp [intOf]; omega
            · rw [aP_over hv] at M7
              go_wp2_with fail
              go_roundw
              case rel => exact ⟨k + 1, _, _, by omega, by go_num, M7, Lib.hid fun j h1 h2 => HZR.out j (by omega) h2⟩
              case measure => simp [intOf]; omega
          · rw [decide_eq_false hc]
            go_wp2_with fail
            refine MR.out.s.probe.mono ?_
            rintro e w8 ⟨c, rfl, hr, b8⟩
            have HZ := Lib.hid (lst_isR MR.out.s.k.p HM.out hr (isR_lo MR.out.s.k.p HM.out hr))
            have hc0' : 0 ≤ c := isR_lo MR.out.s.k.p HM.out hr
            have M9 := Lib.hid (MR.out.past b8)
            clear hr b8 hc MR HZR hkm
            obtain ⟨G, hG⟩ : ∃ G, vals m P = G := ⟨_, rfl⟩
            rw [hG] at M9
            rw [show ((PTeam.lst m).map fun id => P.getD (pl id) 0) = G from hG] at HZ
            clear hG
            have HG := Lib.hid M9.out.gl
            go_wp2_with fail
            go_loop [17, 18, 19] (fun s13 s14 s15 => ∃ kk : Nat, kk ≤ PTeam.cnt m ∧ s15 = .int .i64 kk ∧ s13 = .int .i64 (ge (G.take kk) c : Nat) ∧ s14 = .int .i64 (gt (G.take kk) c : Nat)) (fun _ _ s15 => PTeam.cnt m - (intOf s15).toNat)
            case atStart => exact ⟨0, by omega, rfl, rfl, rfl⟩
            case round =>
              obtain ⟨kk, hk, rfl, rfl, rfl⟩ := hrel
              by_cases hk' : kk < PTeam.cnt m
              · have cc := M9.out.at_ hk'
                have e1 := ge_succ G c (k := kk) (by rw [HG.out]; exact hk')
                have e2 := gt_succ G c (k := kk) (by rw [HG.out]; exact hk')
                have l1 := ge_take_le G c kk
                have l2 := gt_take_le G c kk
                generalize G.getD kk 0 = y at *
                have E1 := Lib.hid e1
                have E2 := Lib.hid e2
                clear e1 e2
                by_cases q1 : c ≤ y
                · have E1' := Lib.hid (E1.out.trans (by rw [if_pos q1]))
                  by_cases q2 : c < y
                  · have E2' := Lib.hid (E2.out.trans (by rw [if_pos q2]))
                    clear E1 E2
                    go_wp2_with fail
                    go_round
                    case rel => exact ⟨kk + 1, by omega, by go_num, by rw [E1'.out]; go_num, by rw [E2'.out]; go_num⟩
                    case measure => simp [intOf]; omega
                  · have E2' := Lib.hid (E2.out.trans (by rw [if_neg q2]))
                    clear E1 E2
                    go_wp2_with fail
                    go_round
                    case rel => exact ⟨kk + 1, by omega, by go_num, by rw [E1'.out]; go_num, by rw [E2'.out]; go_num⟩
                    case measure => simp [intOf]; omega
                · have E1' := Lib.hid (E1.out.trans (by rw [if_neg q1]))
                  have E2' := Lib.hid (E2.out.trans (by rw [if_neg (show ¬ c < y by omega)]))
                  have q2 : ¬ c < y := by omega
                  clear E1 E2
                  go_wp2_with fail
                  go_round
                  case rel => exact ⟨kk + 1, by omega, by go_num, by rw [E1'.out]; go_num, by rw [E2'.out]; go_num⟩
                  case measure => simp [intOf]; omega
              · obtain rfl : kk = PTeam.cnt m := by omega
                have t1 : G.take (PTeam.cnt m) = G := List.take_of_length_le (by rw [HG.out]; exact Nat.le_refl _)
                rw [t1]
                obtain ⟨q, hq⟩ : ∃ q : Nat, Int.tdiv n 2 = (q : Int) := ⟨(n / 2).toNat, by rw [Int.tdiv_eq_ediv_of_nonneg (by omega)]; omega⟩
                have hq1 : (q : Int) = n / 2 := by rw [← hq, Int.tdiv_eq_ediv_of_nonneg (by omega)]
                have hq3 : q ≤ 3 := by omega
                obtain ⟨N1, hN1⟩ : ∃ N1, ge G c = N1 := ⟨_, rfl⟩
                obtain ⟨N2, hN2⟩ : ∃ N2, gt G c = N2 := ⟨_, rfl⟩
                have hz := HZ.out
                rw [hN1, hN2] at hz
                rw [hN1, hN2]
                have z1 : q < N1 := by omega
                have z2 : N2 ≤ q := by omega
                clear hz hN1 hN2 hq1 t1
                go_wp2_with fail
                go_ret
                exact ⟨rfl, M9.out.s.bel⟩
end Go.Proofs.Ytdgpjolohghboaa
