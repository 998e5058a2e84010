/- Contracts of the document's own quorum: Commit, Probe. Made by gen21s.py. -/
import Derived.Test.YtdgpjolohghboaaQuoR
import Derived.Test.YtdgpjolohghboaaHeld
import Derived.Lib.MinMax
namespace Go.Proofs.Ytdgpjolohghboaa
open Go.RowKit PQuo
set_option maxHeartbeats 4000000 in
set_option maxRecDepth 100000 in
theorem rqcommit_c (w : World) (g : Nat) (n me : Int) (m : Nat) (H P : List Int) (last : Int) (h : Rq w g n me m H P last) (hk : Qk n me m H P last) :
    Calls Try.prog 18 #[.pointer (some ⟨g, 0, none⟩)] w fun e w' => e = .returned (.int .i64 (dbest m n H 7)) ∧ Below w.heap.size w w' := by
  have LG := Lib.hid h.lt
  have HLT := Lib.hid hk.n.2.2
  have HN := Lib.hid hk.n
  have HS := Lib.hid h
  have HK := Lib.hid hk
  clear h hk
  go_enter Try.func18, Try.ntmps18
  go_wp2_with fail
  go_loopw [3, 4, 5, 6] (fun s3 s4 _ _ wr => ∃ i : Nat, i ≤ 7 ∧ s4 = .int .i64 ((i : Int) + 1) ∧ s3 = .int .i64 (dbest m n H i) ∧ Hid (Rq wr g n me m H P last) ∧ Hid (Below w.heap.size w wr)) (fun _ s4 _ _ _ => 9 - (intOf s4).toNat)
  case atStart => exact ⟨0, by omega, rfl, rfl, HS, Lib.hid (Below.refl _ _)⟩
  case round =>
    obtain ⟨i, hi, rfl, rfl, ST, BT⟩ := hrel
    clear HS
    by_cases hi7 : i < 7
    · obtain ⟨y, hy⟩ : ∃ y, H.getD i 0 = y := ⟨_, rfl⟩
      have HY := Lib.hid hy
      clear hy
      go_wp2_with fail
      go_loopw [5, 6] (fun s5 s6 wr => ∃ k : Nat, k ≤ 7 ∧ s6 = .int .i64 ((k : Int) + 1) ∧ s5 = .int .i64 (dcnt m H y k : Nat) ∧ Hid (Rq wr g n me m H P last) ∧ Hid (Below w.heap.size w wr)) (fun _ s6 _ => 9 - (intOf s6).toNat)
      case atStart => exact ⟨0, by omega, rfl, rfl, ST, BT⟩
      case round =>
        clear ST BT
        obtain ⟨k, hk, rfl, rfl, ST, BT⟩ := hrel
        have hc := dcnt_le m H y k
        by_cases hk7 : k < 7
        · have HE := Lib.hid (dcnt_succ m H y k)
          cases hb : PTeam.has m ((k : Int) + 1)
          · have HB := Lib.hid hb
            have HE1 := Lib.hid (show dcnt m H y (k + 1) = dcnt m H y k by rw [HE.out, hb]; rfl)
            clear hb HE
            go_wp2_with fail
-- REGION (*curfew/curfewref19.Quorum).Commit 9 rqf 12
            refine Hb.beginB (B := w.heap.size) ?_
            refine Hb.take (v := .pointer (some ⟨g, 0, none⟩)) 0 15 rfl ?_ (fun _ _ => rfl)
            refine Hb.take (v := .pointer (some ⟨g, 0, none⟩)) 1 16 rfl ?_ (fun w' hw' => by go_simp; first | done | rfl | omega | exact wrap_in (by omega) (by omega) | exact Int.tmod_eq_emod_of_nonneg (by omega) | exact Int.tdiv_eq_ediv_of_nonneg (by omega) | (simp; omega))
            refine Hb.take (v := .pointer (some ⟨g, 1, none⟩)) 2 17 rfl ?_ (fun w' hw' => by go_simp; first | done | rfl | omega | exact wrap_in (by omega) (by omega) | exact Int.tmod_eq_emod_of_nonneg (by omega) | exact Int.tdiv_eq_ediv_of_nonneg (by omega) | (simp; omega))
            refine Hb.take (v := .int .i64 m) 3 18 rfl ?_ (fun w' hw' => by have cc := Blk.cell (Blk.below (show Blk wr.drew g _ _ from ST.out) hw' LG.out) rcs_m; go_simp)
            refine Hb.take (v := .int .i64 ((k : Int) + 1)) 4 19 rfl ?_ (fun _ _ => rfl)
            refine Hb.call (f := 12) (args := #[.int .i64 m, .int .i64 ((k : Int) + 1)]) 5 20 rfl ?_ (run_callf Try.func12 (by kernel_rfl) (by kernel_rfl) (by simp only [List.map_toArray, List.map_cons, List.map_nil]; rfl))
            refine (rtHas_c _ m _ HLT.out).mono ?_
            rw [HB.out]
            rintro x w2 ⟨rfl, b2⟩
            have b2 := b2.mono (show w.heap.size ≤ wr.drew.heap.size from BT.out.size)
            have S2 := Lib.hid (show Rq w2 g n me m H P last from Blk.below (show Blk wr.drew g _ _ from ST.out) b2 LG.out)
            have B2 := Lib.hid (BT.out.drew.trans b2)
            refine Hb.back b2 (Nat.le_refl _) ?_
            refine Hb.take (v := .bool false) 6 21 rfl ?_ (fun _ _ => rfl)
            refine Hb.pass 7 22 rfl ?_
            refine Hb.pass 8 23 rfl ?_
            refine Hb.pass 9 24 rfl ?_
            refine Hb.pass 10 25 rfl ?_
            refine Hb.pass 11 26 rfl ?_
            refine Hb.pass 12 27 rfl ?_
            refine Hb.pass 13 28 rfl ?_
            refine Hb.pass 14 29 rfl ?_
            refine Hb.pass 15 30 rfl ?_
            refine Hb.pass 16 31 rfl ?_
            refine Hb.pass 17 32 rfl ?_
            refine Hb.pass 18 33 rfl ?_
            refine Hb.pass 19 34 rfl ?_
            refine Hb.take (v := .bool false) 20 35 rfl ?_ (fun _ _ => rfl)
            refine Hb.done ?_
-- END
            go_wp2_with fail
            go_roundw
            case rel => exact ⟨k + 1, by omega, by go_num, by rw [HE1.out], S2, B2⟩
            case measure => simp [intOf]; omega
          · obtain ⟨x, hx⟩ : ∃ x, H.getD k 0 = x := ⟨_, rfl⟩
            obtain ⟨bb, hbb⟩ : ∃ bb, decide (y ≤ x) = bb := ⟨_, rfl⟩
            have HB := Lib.hid hb
            have HX := Lib.hid hx
            have HD := Lib.hid hbb
            have HE1 := Lib.hid (show dcnt m H y (k + 1) = dcnt m H y k + if bb then 1 else 0 by rw [HE.out, hb, hx, hbb]; rfl)
            clear hb HE hx hbb
            go_wp2_with fail
-- REGION (*curfew/curfewref19.Quorum).Commit 9 rqt_H 12
            refine Hb.beginB (B := w.heap.size) ?_
            refine Hb.take (v := .pointer (some ⟨g, 0, none⟩)) 0 15 rfl ?_ (fun _ _ => rfl)
            refine Hb.take (v := .pointer (some ⟨g, 0, none⟩)) 1 16 rfl ?_ (fun w' hw' => by go_simp; first | done | rfl | omega | exact wrap_in (by omega) (by omega) | exact Int.tmod_eq_emod_of_nonneg (by omega) | exact Int.tdiv_eq_ediv_of_nonneg (by omega) | (simp; omega))
            refine Hb.take (v := .pointer (some ⟨g, 1, none⟩)) 2 17 rfl ?_ (fun w' hw' => by go_simp; first | done | rfl | omega | exact wrap_in (by omega) (by omega) | exact Int.tmod_eq_emod_of_nonneg (by omega) | exact Int.tdiv_eq_ediv_of_nonneg (by omega) | (simp; omega))
            refine Hb.take (v := .int .i64 m) 3 18 rfl ?_ (fun w' hw' => by have cc := Blk.cell (Blk.below (show Blk wr.drew g _ _ from ST.out) hw' LG.out) rcs_m; go_simp)
            refine Hb.take (v := .int .i64 ((k : Int) + 1)) 4 19 rfl ?_ (fun _ _ => rfl)
            refine Hb.call (f := 12) (args := #[.int .i64 m, .int .i64 ((k : Int) + 1)]) 5 20 rfl ?_ (run_callf Try.func12 (by kernel_rfl) (by kernel_rfl) (by simp only [List.map_toArray, List.map_cons, List.map_nil]; rfl))
            refine (rtHas_c _ m _ HLT.out).mono ?_
            rw [HB.out]
            rintro x w2 ⟨rfl, b2⟩
            have b2 := b2.mono (show w.heap.size ≤ wr.drew.heap.size from BT.out.size)
            have S2 := Lib.hid (show Rq w2 g n me m H P last from Blk.below (show Blk wr.drew g _ _ from ST.out) b2 LG.out)
            have B2 := Lib.hid (BT.out.drew.trans b2)
            refine Hb.back b2 (Nat.le_refl _) ?_
            refine Hb.take (v := .bool true) 6 21 rfl ?_ (fun _ _ => rfl)
            refine Hb.take (v := .pointer (some ⟨g, 0, none⟩)) 7 22 rfl ?_ (fun _ _ => rfl)
            refine Hb.take (v := .int .i64 ((k : Int) + 1)) 8 23 rfl ?_ (fun _ _ => rfl)
            refine Hb.take (v := .pointer (some ⟨g, 0, none⟩)) 9 24 rfl ?_ (fun w' hw' => by go_simp; first | done | rfl | omega | exact wrap_in (by omega) (by omega) | exact Int.tmod_eq_emod_of_nonneg (by omega) | exact Int.tdiv_eq_ediv_of_nonneg (by omega) | (simp; omega))
            refine Hb.take (v := .pointer (some ⟨g, 3, none⟩)) 10 25 rfl ?_ (fun w' hw' => by go_simp; first | done | rfl | omega | exact wrap_in (by omega) (by omega) | exact Int.tmod_eq_emod_of_nonneg (by omega) | exact Int.tdiv_eq_ediv_of_nonneg (by omega) | (simp; omega))
            refine Hb.take (v := .pointer (some ⟨g, 3 + (k + 1), none⟩)) 11 26 rfl ?_ (fun w' hw' => by go_simp; intro hh; have := hh (by omega); omega)
            refine Hb.take (v := .int .i64 x) 12 27 rfl ?_ (fun w' hw' => by have cc := Blk.cell (Blk.below S2.out hw' LG.out) (rcs_h HK.out.h.len hk7); rw [HX.out, show 4 + k = 3 + (k + 1) by omega] at cc; go_simp)
            refine Hb.take (v := .pointer (some ⟨g, 0, none⟩)) 13 28 rfl ?_ (fun _ _ => rfl)
            refine Hb.take (v := .int .i64 ((i : Int) + 1)) 14 29 rfl ?_ (fun _ _ => rfl)
            refine Hb.take (v := .pointer (some ⟨g, 0, none⟩)) 15 30 rfl ?_ (fun w' hw' => by go_simp; first | done | rfl | omega | exact wrap_in (by omega) (by omega) | exact Int.tmod_eq_emod_of_nonneg (by omega) | exact Int.tdiv_eq_ediv_of_nonneg (by omega) | (simp; omega))
            refine Hb.take (v := .pointer (some ⟨g, 3, none⟩)) 16 31 rfl ?_ (fun w' hw' => by go_simp; first | done | rfl | omega | exact wrap_in (by omega) (by omega) | exact Int.tmod_eq_emod_of_nonneg (by omega) | exact Int.tdiv_eq_ediv_of_nonneg (by omega) | (simp; omega))
            refine Hb.take (v := .pointer (some ⟨g, 3 + (i + 1), none⟩)) 17 32 rfl ?_ (fun w' hw' => by go_simp; intro hh; have := hh (by omega); omega)
            refine Hb.take (v := .int .i64 y) 18 33 rfl ?_ (fun w' hw' => by have cc := Blk.cell (Blk.below S2.out hw' LG.out) (rcs_h HK.out.h.len hi7); rw [HY.out, show 4 + i = 3 + (i + 1) by omega] at cc; go_simp)
            refine Hb.take (v := .bool bb) 19 34 rfl ?_ (fun w' hw' => by go_simp; exact HD.out)
            refine Hb.take (v := .bool bb) 20 35 rfl ?_ (fun _ _ => rfl)
            refine Hb.done ?_
-- END
            cases bb
            · go_wp2_with fail
              go_roundw
              case rel => exact ⟨k + 1, by omega, by go_num, by rw [HE1.out]; rfl, S2, B2⟩
              case measure => simp [intOf]; omega
            · go_wp2_with fail
              go_roundw
              case rel => exact ⟨k + 1, by omega, by go_num, by rw [HE1.out]; rfl, S2, B2⟩
              case measure => simp [intOf]; omega
        · obtain rfl : k = 7 := by omega
          obtain ⟨N, hN⟩ : ∃ N, dcnt m H y 7 = N := ⟨_, rfl⟩
          rw [hN] at hc ⊢
          have HN2 := Lib.hid hN
          clear hN
          have c1 := Blk.cell ST.out rcs_m
          cases hb : PTeam.has m ((i : Int) + 1)
          · have HB := Lib.hid hb
            have HE1 := Lib.hid (show dbest m n H (i + 1) = dbest m n H i by
              rw [dbest]; unfold dok; rw [hb]; rfl)
            clear hb
            go_wp2_with fail
            refine (rtHas_c wr m _ HLT.out).mono ?_
            rw [HB.out]
            rintro x w2 ⟨rfl, b2⟩
            have S2 := Lib.hid (ST.out.past b2)
            have B2 := Lib.hid (BT.out.trans (b2.mono BT.out.size))
            clear b2 c1
            go_wp2_with fail
            go_roundw
            case rel => exact ⟨i + 1, by omega, by go_num, by rw [HE1.out], S2, B2⟩
            case measure => simp [intOf]; omega
          · have HB := Lib.hid hb
            obtain ⟨q, hq⟩ : ∃ q : Nat, Int.tdiv n 2 = (q : Int) := ⟨(n / 2).toNat, by have := HN.out; rw [Int.tdiv_eq_ediv_of_nonneg (by omega)]; omega⟩
            have hq1 : (q : Int) = n / 2 := by have := HN.out; rw [← hq, Int.tdiv_eq_ediv_of_nonneg (by omega)]
            have HE1 := Lib.hid (show dbest m n H (i + 1) = if q < N then max (dbest m n H i) y else dbest m n H i by
              rw [dbest]; unfold dok; rw [hb, HY.out, HN2.out, ← hq1, Bool.true_and]
              by_cases hlt : q < N
              · rw [if_pos hlt, if_pos (decide_eq_true (by omega))]
              · rw [if_neg hlt, if_neg (by rw [decide_eq_true_eq]; omega)])
            obtain ⟨bo, hbo⟩ : ∃ bo, dbest m n H i = bo := ⟨_, rfl⟩
            rw [hbo] at HE1 ⊢
            have hq3 : q ≤ 3 := by have := HN.out; omega
            clear hb hq1 hbo
            go_wp2_with fail
            refine (rtHas_c wr m _ HLT.out).mono ?_
            rw [HB.out]
            rintro x w2 ⟨rfl, b2⟩
            have S2 := Lib.hid (ST.out.past b2)
            have B2 := Lib.hid (BT.out.trans (b2.mono BT.out.size))
            clear b2 c1
            have c0 := Blk.cell S2.out rcs_n
            have c3 := Blk.cell S2.out (rcs_h HK.out.h.len hi7)
            rw [HY.out, show 4 + i = 3 + (i + 1) by omega] at c3
            by_cases hlt : q < N
            · have HE2 := Lib.hid (HE1.out.trans (if_pos hlt))
              clear HE1
              go_wp2_with fail
              go_roundw
              case rel => exact ⟨i + 1, by omega, by go_num, by rw [HE2.out], S2, B2⟩
              case measure => simp [intOf]; omega
            · have HE2 := Lib.hid (HE1.out.trans (if_neg hlt))
              clear HE1
              go_wp2_with fail
              go_roundw
              case rel => exact ⟨i + 1, by omega, by go_num, by rw [HE2.out], S2, B2⟩
              case measure => simp [intOf]; omega
    · obtain rfl : i = 7 := by omega
      go_wp2_with fail
      go_ret
      exact ⟨rfl, BT.out⟩
set_option maxHeartbeats 4000000 in
set_option maxRecDepth 100000 in
theorem rqprobe_c (w : World) (g : Nat) (n me : Int) (m : Nat) (H P : List Int) (last : Int) (h : Rq w g n me m H P last) (hk : Qk n me m H P last) :
    Calls Try.prog 20 #[.pointer (some ⟨g, 0, none⟩)] w fun e w' => e = .returned (.int .i64 (dbest m n P 7)) ∧ Below w.heap.size w w' := by
  have LG := Lib.hid h.lt
  have HLT := Lib.hid hk.n.2.2
  have HN := Lib.hid hk.n
  have HS := Lib.hid h
  have HK := Lib.hid hk
  clear h hk
  go_enter Try.func20, Try.ntmps20
  go_wp2_with fail
  go_loopw [3, 4, 5, 6] (fun s3 s4 _ _ wr => ∃ i : Nat, i ≤ 7 ∧ s4 = .int .i64 ((i : Int) + 1) ∧ s3 = .int .i64 (dbest m n P i) ∧ Hid (Rq wr g n me m H P last) ∧ Hid (Below w.heap.size w wr)) (fun _ s4 _ _ _ => 9 - (intOf s4).toNat)
  case atStart => exact ⟨0, by omega, rfl, rfl, HS, Lib.hid (Below.refl _ _)⟩
  case round =>
    obtain ⟨i, hi, rfl, rfl, ST, BT⟩ := hrel
    clear HS
    by_cases hi7 : i < 7
    · obtain ⟨y, hy⟩ : ∃ y, P.getD i 0 = y := ⟨_, rfl⟩
      have HY := Lib.hid hy
      clear hy
      go_wp2_with fail
      go_loopw [5, 6] (fun s5 s6 wr => ∃ k : Nat, k ≤ 7 ∧ s6 = .int .i64 ((k : Int) + 1) ∧ s5 = .int .i64 (dcnt m P y k : Nat) ∧ Hid (Rq wr g n me m H P last) ∧ Hid (Below w.heap.size w wr)) (fun _ s6 _ => 9 - (intOf s6).toNat)
      case atStart => exact ⟨0, by omega, rfl, rfl, ST, BT⟩
      case round =>
        clear ST BT
        obtain ⟨k, hk, rfl, rfl, ST, BT⟩ := hrel
        have hc := dcnt_le m P y k
        by_cases hk7 : k < 7
        · have HE := Lib.hid (dcnt_succ m P y k)
          cases hb : PTeam.has m ((k : Int) + 1)
          · have HB := Lib.hid hb
            have HE1 := Lib.hid (show dcnt m P y (k + 1) = dcnt m P y k by rw [HE.out, hb]; rfl)
            clear hb HE
            go_wp2_with fail
-- REGION (*curfew/curfewref19.Quorum).Probe 9 rqf 12
            refine Hb.beginB (B := w.heap.size) ?_
            refine Hb.take (v := .pointer (some ⟨g, 0, none⟩)) 0 15 rfl ?_ (fun _ _ => rfl)
            refine Hb.take (v := .pointer (some ⟨g, 0, none⟩)) 1 16 rfl ?_ (fun w' hw' => by go_simp; first | done | rfl | omega | exact wrap_in (by omega) (by omega) | exact Int.tmod_eq_emod_of_nonneg (by omega) | exact Int.tdiv_eq_ediv_of_nonneg (by omega) | (simp; omega))
            refine Hb.take (v := .pointer (some ⟨g, 1, none⟩)) 2 17 rfl ?_ (fun w' hw' => by go_simp; first | done | rfl | omega | exact wrap_in (by omega) (by omega) | exact Int.tmod_eq_emod_of_nonneg (by omega) | exact Int.tdiv_eq_ediv_of_nonneg (by omega) | (simp; omega))
            refine Hb.take (v := .int .i64 m) 3 18 rfl ?_ (fun w' hw' => by have cc := Blk.cell (Blk.below (show Blk wr.drew g _ _ from ST.out) hw' LG.out) rcs_m; go_simp)
            refine Hb.take (v := .int .i64 ((k : Int) + 1)) 4 19 rfl ?_ (fun _ _ => rfl)
            refine Hb.call (f := 12) (args := #[.int .i64 m, .int .i64 ((k : Int) + 1)]) 5 20 rfl ?_ (run_callf Try.func12 (by kernel_rfl) (by kernel_rfl) (by simp only [List.map_toArray, List.map_cons, List.map_nil]; rfl))
            refine (rtHas_c _ m _ HLT.out).mono ?_
            rw [HB.out]
            rintro x w2 ⟨rfl, b2⟩
            have b2 := b2.mono (show w.heap.size ≤ wr.drew.heap.size from BT.out.size)
            have S2 := Lib.hid (show Rq w2 g n me m H P last from Blk.below (show Blk wr.drew g _ _ from ST.out) b2 LG.out)
            have B2 := Lib.hid (BT.out.drew.trans b2)
            refine Hb.back b2 (Nat.le_refl _) ?_
            refine Hb.take (v := .bool false) 6 21 rfl ?_ (fun _ _ => rfl)
            refine Hb.pass 7 22 rfl ?_
            refine Hb.pass 8 23 rfl ?_
            refine Hb.pass 9 24 rfl ?_
            refine Hb.pass 10 25 rfl ?_
            refine Hb.pass 11 26 rfl ?_
            refine Hb.pass 12 27 rfl ?_
            refine Hb.pass 13 28 rfl ?_
            refine Hb.pass 14 29 rfl ?_
            refine Hb.pass 15 30 rfl ?_
            refine Hb.pass 16 31 rfl ?_
            refine Hb.pass 17 32 rfl ?_
            refine Hb.pass 18 33 rfl ?_
            refine Hb.pass 19 34 rfl ?_
            refine Hb.take (v := .bool false) 20 35 rfl ?_ (fun _ _ => rfl)
            refine Hb.done ?_
-- END
            go_wp2_with fail
            go_roundw
            case rel => exact ⟨k + 1, by omega, by go_num, by rw [HE1.out], S2, B2⟩
            case measure => simp [intOf]; omega
          · obtain ⟨x, hx⟩ : ∃ x, P.getD k 0 = x := ⟨_, rfl⟩
            obtain ⟨bb, hbb⟩ : ∃ bb, decide (y ≤ x) = bb := ⟨_, rfl⟩
            have HB := Lib.hid hb
            have HX := Lib.hid hx
            have HD := Lib.hid hbb
            have HE1 := Lib.hid (show dcnt m P y (k + 1) = dcnt m P y k + if bb then 1 else 0 by rw [HE.out, hb, hx, hbb]; rfl)
            clear hb HE hx hbb
            go_wp2_with fail
-- REGION (*curfew/curfewref19.Quorum).Probe 9 rqt_P 12
            refine Hb.beginB (B := w.heap.size) ?_
            refine Hb.take (v := .pointer (some ⟨g, 0, none⟩)) 0 15 rfl ?_ (fun _ _ => rfl)
            refine Hb.take (v := .pointer (some ⟨g, 0, none⟩)) 1 16 rfl ?_ (fun w' hw' => by go_simp; first | done | rfl | omega | exact wrap_in (by omega) (by omega) | exact Int.tmod_eq_emod_of_nonneg (by omega) | exact Int.tdiv_eq_ediv_of_nonneg (by omega) | (simp; omega))
            refine Hb.take (v := .pointer (some ⟨g, 1, none⟩)) 2 17 rfl ?_ (fun w' hw' => by go_simp; first | done | rfl | omega | exact wrap_in (by omega) (by omega) | exact Int.tmod_eq_emod_of_nonneg (by omega) | exact Int.tdiv_eq_ediv_of_nonneg (by omega) | (simp; omega))
            refine Hb.take (v := .int .i64 m) 3 18 rfl ?_ (fun w' hw' => by have cc := Blk.cell (Blk.below (show Blk wr.drew g _ _ from ST.out) hw' LG.out) rcs_m; go_simp)
            refine Hb.take (v := .int .i64 ((k : Int) + 1)) 4 19 rfl ?_ (fun _ _ => rfl)
            refine Hb.call (f := 12) (args := #[.int .i64 m, .int .i64 ((k : Int) + 1)]) 5 20 rfl ?_ (run_callf Try.func12 (by kernel_rfl) (by kernel_rfl) (by simp only [List.map_toArray, List.map_cons, List.map_nil]; rfl))
            refine (rtHas_c _ m _ HLT.out).mono ?_
            rw [HB.out]
            rintro x w2 ⟨rfl, b2⟩
            have b2 := b2.mono (show w.heap.size ≤ wr.drew.heap.size from BT.out.size)
            have S2 := Lib.hid (show Rq w2 g n me m H P last from Blk.below (show Blk wr.drew g _ _ from ST.out) b2 LG.out)
            have B2 := Lib.hid (BT.out.drew.trans b2)
            refine Hb.back b2 (Nat.le_refl _) ?_
            refine Hb.take (v := .bool true) 6 21 rfl ?_ (fun _ _ => rfl)
            refine Hb.take (v := .pointer (some ⟨g, 0, none⟩)) 7 22 rfl ?_ (fun _ _ => rfl)
            refine Hb.take (v := .int .i64 ((k : Int) + 1)) 8 23 rfl ?_ (fun _ _ => rfl)
            refine Hb.take (v := .pointer (some ⟨g, 0, none⟩)) 9 24 rfl ?_ (fun w' hw' => by go_simp; first | done | rfl | omega | exact wrap_in (by omega) (by omega) | exact Int.tmod_eq_emod_of_nonneg (by omega) | exact Int.tdiv_eq_ediv_of_nonneg (by omega) | (simp; omega))
            refine Hb.take (v := .pointer (some ⟨g, 11, none⟩)) 10 25 rfl ?_ (fun w' hw' => by go_simp; first | done | rfl | omega | exact wrap_in (by omega) (by omega) | exact Int.tmod_eq_emod_of_nonneg (by omega) | exact Int.tdiv_eq_ediv_of_nonneg (by omega) | (simp; omega))
            refine Hb.take (v := .pointer (some ⟨g, 11 + (k + 1), none⟩)) 11 26 rfl ?_ (fun w' hw' => by go_simp; intro hh; have := hh (by omega); omega)
            refine Hb.take (v := .int .i64 x) 12 27 rfl ?_ (fun w' hw' => by have cc := Blk.cell (Blk.below S2.out hw' LG.out) (rcs_p HK.out.h.len HK.out.p.len hk7); rw [HX.out, show 12 + k = 11 + (k + 1) by omega] at cc; go_simp)
            refine Hb.take (v := .pointer (some ⟨g, 0, none⟩)) 13 28 rfl ?_ (fun _ _ => rfl)
            refine Hb.take (v := .int .i64 ((i : Int) + 1)) 14 29 rfl ?_ (fun _ _ => rfl)
            refine Hb.take (v := .pointer (some ⟨g, 0, none⟩)) 15 30 rfl ?_ (fun w' hw' => by go_simp; first | done | rfl | omega | exact wrap_in (by omega) (by omega) | exact Int.tmod_eq_emod_of_nonneg (by omega) | exact Int.tdiv_eq_ediv_of_nonneg (by omega) | (simp; omega))
            refine Hb.take (v := .pointer (some ⟨g, 11, none⟩)) 16 31 rfl ?_ (fun w' hw' => by go_simp; first | done | rfl | omega | exact wrap_in (by omega) (by omega) | exact Int.tmod_eq_emod_of_nonneg (by omega) | exact Int.tdiv_eq_ediv_of_nonneg (by omega) | (simp; omega))
            refine Hb.take (v := .pointer (some ⟨g, 11 + (i + 1), none⟩)) 17 32 rfl ?_ (fun w' hw' => by go_simp; intro hh; have := hh (by omega); omega)
            refine Hb.take (v := .int .i64 y) 18 33 rfl ?_ (fun w' hw' => by have cc := Blk.cell (Blk.below S2.out hw' LG.out) (rcs_p HK.out.h.len HK.out.p.len hi7); rw [HY.out, show 12 + i = 11 + (i + 1) by omega] at cc; go_simp)
            refine Hb.take (v := .bool bb) 19 34 rfl ?_ (fun w' hw' => by go_simp; exact HD.out)
            refine Hb.take (v := .bool bb) 20 35 rfl ?_ (fun _ _ => rfl)
            refine Hb.done ?_
-- END
            cases bb
            · go_wp2_with fail
              go_roundw
              case rel => exact ⟨k + 1, by omega, by go_num, by rw [HE1.out]; rfl, S2, B2⟩
              case measure => simp [intOf]; omega
            · go_wp2_with fail
              go_roundw
              case rel => exact ⟨k + 1, by omega, by go_num, by rw [HE1.out]; rfl, S2, B2⟩
              case measure => simp [intOf]; omega
        · obtain rfl : k = 7 := by omega
          obtain ⟨N, hN⟩ : ∃ N, dcnt m P y 7 = N := ⟨_, rfl⟩
          rw [hN] at hc ⊢
          have HN2 := Lib.hid hN
          clear hN
          have c1 := Blk.cell ST.out rcs_m
          cases hb : PTeam.has m ((i : Int) + 1)
          · have HB := Lib.hid hb
            have HE1 := Lib.hid (show dbest m n P (i + 1) = dbest m n P i by
              rw [dbest]; unfold dok; rw [hb]; rfl)
            clear hb
            go_wp2_with fail
            refine (rtHas_c wr m _ HLT.out).mono ?_
            rw [HB.out]
            rintro x w2 ⟨rfl, b2⟩
            have S2 := Lib.hid (ST.out.past b2)
            have B2 := Lib.hid (BT.out.trans (b2.mono BT.out.size))
            clear b2 c1
            go_wp2_with fail
            go_roundw
            case rel => exact ⟨i + 1, by omega, by go_num, by rw [HE1.out], S2, B2⟩
            case measure => simp [intOf]; omega
          · have HB := Lib.hid hb
            obtain ⟨q, hq⟩ : ∃ q : Nat, Int.tdiv n 2 = (q : Int) := ⟨(n / 2).toNat, by have := HN.out; rw [Int.tdiv_eq_ediv_of_nonneg (by omega)]; omega⟩
            have hq1 : (q : Int) = n / 2 := by have := HN.out; rw [← hq, Int.tdiv_eq_ediv_of_nonneg (by omega)]
            have HE1 := Lib.hid (show dbest m n P (i + 1) = if q < N then max (dbest m n P i) y else dbest m n P i by
              rw [dbest]; unfold dok; rw [hb, HY.out, HN2.out, ← hq1, Bool.true_and]
              by_cases hlt : q < N
              · rw [if_pos hlt, if_pos (decide_eq_true (by omega))]
              · rw [if_neg hlt, if_neg (by rw [decide_eq_true_eq]; omega)])
            obtain ⟨bo, hbo⟩ : ∃ bo, dbest m n P i = bo := ⟨_, rfl⟩
            rw [hbo] at HE1 ⊢
            have hq3 : q ≤ 3 := by have := HN.out; omega
            clear hb hq1 hbo
            go_wp2_with fail
            refine (rtHas_c wr m _ HLT.out).mono ?_
            rw [HB.out]
            rintro x w2 ⟨rfl, b2⟩
            have S2 := Lib.hid (ST.out.past b2)
            have B2 := Lib.hid (BT.out.trans (b2.mono BT.out.size))
            clear b2 c1
            have c0 := Blk.cell S2.out rcs_n
            have c3 := Blk.cell S2.out (rcs_p HK.out.h.len HK.out.p.len hi7)
            rw [HY.out, show 12 + i = 11 + (i + 1) by omega] at c3
            by_cases hlt : q < N
            · have HE2 := Lib.hid (HE1.out.trans (if_pos hlt))
              clear HE1
              go_wp2_with fail
              go_roundw
              case rel => exact ⟨i + 1, by omega, by go_num, by rw [HE2.out], S2, B2⟩
              case measure => simp [intOf]; omega
            · have HE2 := Lib.hid (HE1.out.trans (if_neg hlt))
              clear HE1
              go_wp2_with fail
              go_roundw
              case rel => exact ⟨i + 1, by omega, by go_num, by rw [HE2.out], S2, B2⟩
              case measure => simp [intOf]; omega
    · obtain rfl : i = 7 := by omega
      go_wp2_with fail
      go_ret
      exact ⟨rfl, BT.out⟩
end Go.Proofs.Ytdgpjolohghboaa
