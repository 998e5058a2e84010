/- The walk of QuorumMost. Made by gen21c.py. -/
import Derived.Test.YtdgpjolohghboaaQuoL
import Derived.Test.YtdgpjolohghboaaHeldT
import Derived.OwnWalk
import Derived.Deep.CutRange
namespace Go.Proofs.Ytdgpjolohghboaa
open Go.RowKit PQuo

set_option maxHeartbeats 8000000 in
set_option maxRecDepth 100000 in
theorem QuorumMost_w (w : World) (n members : Int) (A : Option Addr) (cA len : Nat) (xs : List Int) (h0 : Rd w w.heap.size A cA 1 len (is xs)) :
    Calls Try.prog 4 #[.int .i64 n, .int .i64 members, .slice A len cA] w fun e w' => e = .returned (.bool true) ∧ Below w.heap.size w w' := by
  have HR := Lib.hid h0
  have hlen : len ≤ 9223372036854775807 := by have := h0.le; have := h0.cap; unfold maxLen at this; omega
  clear h0
  obtain ⟨i0, hi, hz0, hz1, hz2⟩ := info_parts int_info
  cases hm : PTeam.most members n
  · have HM := Lib.hid hm
    clear hm
    go_enter Try.func4, Try.ntmps4
    go_wp2_with fail
    refine (begunQ_c w).mono ?_
    rintro e w1 ⟨rfl, b1⟩
    go_wp2_with fail
    refine (rtMost_c w1 members n).mono ?_
    rw [HM.out]
    rintro e w2 ⟨rfl, b2⟩
    have B2 := Lib.hid (b1.trans (b2.mono b1.size))
    clear b1 b2
    go_wp2_with fail
    go_ret
    exact ⟨rfl, B2.out⟩
  have hq0 : 0 ≤ members := by
    unfold PTeam.most PTeam.may at hm
    simp only [Bool.and_eq_true, decide_eq_true_eq] at hm
    exact hm.1.2.1
  obtain ⟨m, rfl⟩ := Int.eq_ofNat_of_zero_le hq0
  obtain ⟨h3, h7, hlt, _⟩ := most_in hm
  obtain ⟨hc0, hme⟩ := lst_head hm
  have hc7 := PTeam.cnt_le m
  have HM := Lib.hid hm
  clear hm hq0
  go_enter Try.func4, Try.ntmps4
  go_wp2_with fail
  refine (begunQ_c w).mono ?_
  rintro e w1 ⟨rfl, b1⟩
  go_wp2_with fail
  refine (rtMost_c w1 m n).mono ?_
  rw [HM.out]
  rintro e w2 ⟨rfl, b2⟩
  have B2 := Lib.hid (b1.trans (b2.mono b1.size))
  clear b1 b2
  go_wp2_with fail
  refine (rtList_c w2 m hlt).mono ?_
  rintro e w3 ⟨AL, cL, rfl, hown, b3⟩
  have B3 := Lib.hid (B2.out.trans (b3.mono B2.out.size))
  have OL := Lib.hid ((Ow.of_own hown).down (Nat.zero_le _))
  obtain ⟨bL, rfl, _, hbL⟩ := OL.out.some hc0
  have hcx := (OL.out.cell rfl (is_get _ (by rw [PTeam.lst_length]; exact hc0))).1
  obtain ⟨x, hx⟩ : ∃ x, (PTeam.lst m).getD 0 0 = x := ⟨_, rfl⟩
  rw [hx] at hcx hme
  have HX := Lib.hid hx
  have HME := Lib.hid hme
  clear hx hown b3 hme B2
  go_wp2_with fail
  refine (qnew_yes w3 n x m HM.out HME.out).mono ?_
  rintro e w4 ⟨rfl, q4, k4, b4⟩
  have S4 := Lib.hid (Sq.new B3.out q4 k4 b4)
  have O4 := Lib.hid (OL.out.past b4)
  have hb4 : bL < w4.heap.size := Nat.lt_of_lt_of_le hbL b4.size
  clear q4 k4 b4 hcx B3 OL hbL
  generalize w3.heap.size = g at *
  go_wp2_with (at_make; go_must (refine wpList_make_full _ rfl _ _ 40 rfl w4.heap.size 3 i0 (.int .i64 0) 1 Try.underlying40 hi hz0 hz1 _ _ _ _ (PTeam.cnt m) rfl rfl rfl rfl ?b2 ?b3 (Nat.le_refl _) ?_))
  case b2 => rw [hz2]; omega
  case b3 => unfold maxLen; omega
  intro w5 own5 grow5
  obtain ⟨Z, hB5⟩ := made_blk own5
  have b5 : Below w4.heap.size w4 w5 := (Below.refl _ _).grown grow5 (Nat.le_refl _) (fun k h => by cases h)
  have M5 := Lib.hid (show Mq 3 w w5 g w4.heap.size n x m none7 none7 0 (vals m none7) Z (some ⟨bL, 0, none⟩) cL from
    ⟨S4.out.past b5, by rw [vals_none m hlt]; exact hB5, S4.out.bel.size, O4.out.past b5, by simpa [bk] using Nat.ne_of_lt hb4, vals_len _ _, by decide⟩)
  have HZ0 := Lib.hid (show ∀ j, 0 ≤ j → j < PTeam.cnt m → (vals m none7).getD j 0 = 0 from fun j _ hj => by
    rw [vals_none m hlt, List.getD_eq_getElem?_getD, List.getElem?_replicate]; split <;> rfl)
  clear own5 grow5 hB5 b5 S4 O4 hi hz0 hz1 hz2
  generalize w4.heap.size = gB at *
  clear hb4
  go_wp2_with fail
  go_loopw [11] (fun s11 wr => ∃ (i : Nat) (H P : List Int), i ≤ PTeam.cnt m ∧ s11 = .int .i64 i ∧ Hid (Mq 3 w wr g gB n x m H P 0 (vals m H) Z (some ⟨bL, 0, none⟩) cL) ∧ Hid (∀ j, i ≤ j → j < PTeam.cnt m → (vals m H).getD j 0 = 0)) (fun s11 _ => PTeam.cnt m - (intOf s11).toNat)
  case atStart => exact ⟨0, none7, none7, by omega, rfl, M5, HZ0⟩
  case round =>
    clear M5 HZ0
    obtain ⟨i, H, P, him, rfl, MR, HZR⟩ := hrel
    go_upto_region 10 with fail
    go_cut [43] from 34 to 43 (fun s43 wx => s43 = .bool (decide (i < PTeam.cnt m ∧ i < len)) ∧ wr = wx)
    case first =>
      by_cases c1 : i < PTeam.cnt m
      · have j1 : (i : Int) < (PTeam.cnt m : Int) := by omega
        by_cases c2 : i < len
        · have j2 : (i : Int) < (len : Int) := by omega
          go_wp2_with fail
          go_meet
          case rel => exact ⟨by rw [decide_eq_true ⟨c1, c2⟩], rfl⟩
        · have j2 : ¬ (i : Int) < (len : Int) := by omega
          go_wp2_with fail
          go_meet
          case rel => exact ⟨by rw [decide_eq_false (fun h => c2 h.2)], rfl⟩
      · have j1 : ¬ (i : Int) < (PTeam.cnt m : Int) := by omega
        go_wp2_with fail
        go_meet
        case rel => exact ⟨by rw [decide_eq_false (fun h => c1 h.1)], rfl⟩
    case rest =>
      obtain ⟨rfl, rfl⟩ := hcut
      by_cases hc : i < PTeam.cnt m ∧ i < len
      · rw [decide_eq_true hc]
        obtain ⟨hi', hl'⟩ := hc
        obtain ⟨bA, oA, y, rfl, hcA, -, hy⟩ := (HR.out.below MR.out.s.bel).int hl'
        clear hy
        obtain ⟨v, r, v0, v61, hr1, ra, rb, hr2⟩ := tmod_inQ y (n := 61) (by omega)
        obtain ⟨id, hid⟩ : ∃ id, (PTeam.lst m).getD i 0 = id := ⟨_, rfl⟩
        have hhas : PTeam.has m id = true := by rw [← hid]; exact lst_at hlt hi'
        have HOK := Lib.hid (show okA m id v = true by unfold okA; rw [hhas, decide_eq_true (show 0 ≤ v ∧ v ≤ 60 by omega)]; rfl)
        have M6 := Lib.hid (MR.out.put hi' v)
        have LL := Lib.hid (show ∀ w', Touch [g] (wr.setCell ⟨gB, i, none⟩ (.int .i64 v)).drew w' → w'.cell? ⟨bL, i, none⟩ = some (.int .i64 id) ∧ w'.cell? ⟨gB, i, none⟩ = some (.int .i64 v) from fun w' t => by
          have := M6.out.drew.seen hi' t
          rw [hid, getD_set _ _ _ _ (by rw [vals_len]; exact hi'), if_pos rfl] at this
          exact this)
        have cW := MR.out.at_ hi'
        have fW := MR.out.r.free i
        have h0i := HZR.out i (Nat.le_refl _) hi'
        rw [vals_at _ hi', hid] at h0i
        have EV := Lib.hid (show vals m (aH m H id v) = (vals m H).set i v by
          rw [aH_zero HOK.out h0i v0, ← hid, vals_set hlt MR.out.s.k.h.len hi'])
        have HID := Lib.hid hid
        have HZ2 := Lib.hid (show ∀ j, i + 1 ≤ j → j < PTeam.cnt m → (vals m (aH m H id v)).getD j 0 = 0 from fun j h1 h2 => by
          rw [EV.out, getD_set _ _ _ _ (by rw [vals_len]; exact hi'), if_neg (by omega)]
          exact HZR.out j (by omega) h2)
        clear hid hhas h0i
        have jm : (i : Int) < (PTeam.cnt m : Int) := by omega
        go_wp2_with fail
        clear cW fW hcA
        generalize wr.setCell ⟨gB, i, none⟩ (.int .i64 v) = w6 at *
-- REGION curfew/curfewlaw21.QuorumMost 13 qmost13 8
        refine Hs.begin ([g]) ?_
        refine Hs.take (v := .pointer (some ⟨g, 0, none⟩)) 0 56 rfl ?_ (fun _ _ => rfl)
        refine Hs.take (v := .slice (some ⟨bL, 0, none⟩) (PTeam.cnt m) cL) 1 57 rfl ?_ (fun _ _ => rfl)
        refine Hs.take (v := .int .i64 (i : Int)) 2 58 rfl ?_ (fun _ _ => rfl)
        refine Hs.take (v := .pointer (some ⟨bL, i, none⟩)) 3 59 rfl ?_ (fun w' hw' => by go_simp)
        refine Hs.take (v := .int .i64 id) 4 60 rfl ?_ (fun w' hw' => by have cc := (LL.out w' hw').1; go_simp)
        refine Hs.take (v := .slice (some ⟨gB, 0, none⟩) (PTeam.cnt m) (PTeam.cnt m)) 5 61 rfl ?_ (fun _ _ => rfl)
        refine Hs.take (v := .int .i64 (i : Int)) 6 62 rfl ?_ (fun _ _ => rfl)
        refine Hs.take (v := .pointer (some ⟨gB, i, none⟩)) 7 63 rfl ?_ (fun w' hw' => by go_simp)
        refine Hs.take (v := .int .i64 v) 8 64 rfl ?_ (fun w' hw' => by have cc := (LL.out w' hw').2; go_simp)
        refine Hs.call (f := 13) (args := #[.pointer (some ⟨g, 0, none⟩), .int .i64 id, .int .i64 v, .int .i64 0]) 9 65 rfl ?_ (run_callf Try.func13 (by kernel_rfl) (by kernel_rfl) (by simp only [List.map_toArray, List.map_cons, List.map_nil]; rfl))
        refine (M6.out.drew.s.ack id v 0).mono ?_
        rw [HOK.out]
        rintro e w7 ⟨rfl, s7, t7⟩
        have M8 := Lib.hid (M6.out.drew.go s7 t7)
        refine Hs.back t7 ?_
        refine Hs.take (v := .bool false) 10 66 rfl ?_ (fun w' hw' => by go_simp; first | done | rfl | omega | exact wrap_in (by omega) (by omega) | exact Int.tmod_eq_emod_of_nonneg (by omega) | exact Int.tdiv_eq_ediv_of_nonneg (by omega) | (simp; omega))
        refine Hs.done ?_
-- END
        rw [← EV.out] at M8
        go_wp2_with fail
        go_roundw
        case rel => exact ⟨i + 1, _, _, by omega, by go_num, M8, HZ2⟩
        case measure => simp [intOf]; omega
      · rw [decide_eq_false hc]
        go_wp2_with fail
        refine MR.out.s.commit.mono ?_
        rintro e w8 ⟨c, rfl, hr, b8⟩
        have HZ := Lib.hid (lst_isR MR.out.s.k.h HM.out hr (isR_lo MR.out.s.k.h HM.out hr))
        have hc0' : 0 ≤ c := isR_lo MR.out.s.k.h HM.out hr
        have M9 := Lib.hid (MR.out.past b8)
        clear hr b8 hc MR HZR him
        obtain ⟨G, hG⟩ : ∃ G, vals m H = G := ⟨_, rfl⟩
        rw [hG] at M9
        rw [show ((PTeam.lst m).map fun id => H.getD (pl id) 0) = G from hG] at HZ
        clear hG
        have HG := Lib.hid M9.out.gl
        go_wp2_with fail
        go_loop [13, 14, 15] (fun s13 s14 s15 => ∃ k : Nat, k ≤ PTeam.cnt m ∧ s15 = .int .i64 k ∧ s13 = .int .i64 (ge (G.take k) c : Nat) ∧ s14 = .int .i64 (gt (G.take k) c : Nat)) (fun _ _ s15 => PTeam.cnt m - (intOf s15).toNat)
        case atStart => exact ⟨0, by omega, rfl, rfl, rfl⟩
        case round =>
          obtain ⟨k, hk, rfl, rfl, rfl⟩ := hrel
          by_cases hk' : k < PTeam.cnt m
          · have cc := M9.out.at_ hk'
            have e1 := ge_succ G c (k := k) (by rw [HG.out]; exact hk')
            have e2 := gt_succ G c (k := k) (by rw [HG.out]; exact hk')
            have l1 := ge_take_le G c k
            have l2 := gt_take_le G c k
            generalize G.getD k 0 = y at *
            have E1 := Lib.hid e1
            have E2 := Lib.hid e2
            clear e1 e2
            by_cases q1 : c ≤ y
            · have E1' := Lib.hid (E1.out.trans (by rw [if_pos q1]))
              by_cases q2 : c < y
              · have E2' := Lib.hid (E2.out.trans (by rw [if_pos q2]))
                clear E1 E2
                go_wp2_with fail
                go_round
                case rel => exact ⟨k + 1, by omega, by go_num, by rw [E1'.out]; go_num, by rw [E2'.out]; go_num⟩
                case measure => simp [intOf]; omega
              · have E2' := Lib.hid (E2.out.trans (by rw [if_neg q2]))
                clear E1 E2
                go_wp2_with fail
                go_round
                case rel => exact ⟨k + 1, by omega, by go_num, by rw [E1'.out]; go_num, by rw [E2'.out]; go_num⟩
                case measure => simp [intOf]; omega
            · have E1' := Lib.hid (E1.out.trans (by rw [if_neg q1]))
              have E2' := Lib.hid (E2.out.trans (by rw [if_neg (show ¬ c < y by omega)]))
              have q2 : ¬ c < y := by omega
              clear E1 E2
              go_wp2_with fail
              go_round
              case rel => exact ⟨k + 1, by omega, by go_num, by rw [E1'.out]; go_num, by rw [E2'.out]; go_num⟩
              case measure => simp [intOf]; omega
          · obtain rfl : k = PTeam.cnt m := by omega
            have t1 : G.take (PTeam.cnt m) = G := List.take_of_length_le (by rw [HG.out]; exact Nat.le_refl _)
            rw [t1]
            obtain ⟨q, hq⟩ : ∃ q : Nat, Int.tdiv n 2 = (q : Int) := ⟨(n / 2).toNat, by rw [Int.tdiv_eq_ediv_of_nonneg (by omega)]; omega⟩
            have hq1 : (q : Int) = n / 2 := by rw [← hq, Int.tdiv_eq_ediv_of_nonneg (by omega)]
            have hq3 : q ≤ 3 := by omega
            obtain ⟨N1, hN1⟩ : ∃ N1, ge G c = N1 := ⟨_, rfl⟩
            obtain ⟨N2, hN2⟩ : ∃ N2, gt G c = N2 := ⟨_, rfl⟩
            have hz := HZ.out
            rw [hN1, hN2] at hz
            rw [hN1, hN2]
            have z1 : q < N1 := by omega
            have z2 : N2 ≤ q := by omega
            clear hz hN1 hN2 hq1 t1
            go_wp2_with fail
            go_ret
            exact ⟨rfl, M9.out.s.bel⟩
end Go.Proofs.Ytdgpjolohghboaa
