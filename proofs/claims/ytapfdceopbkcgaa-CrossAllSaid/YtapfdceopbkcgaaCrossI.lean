/- The document's Hull. Made by program (gen10i.py). -/
import Derived.Test.YtapfdceopbkcgaaCrossH
import Derived.Test.YtapfdceopbkcgaaCrossF
import Derived.Deep.CutRange
import Derived.Deep.CutBlock
namespace Go.Proofs.Ytapfdceopbkcgaa
open Go.RowKit
open PDrift (pr)
open PCross (at_ cnt)

set_option maxHeartbeats 2000000 in
set_option maxRecDepth 100000 in
theorem rHull_c (w : World) (A : Option Addr) (c n : Nat) (l : List (Int × Int)) (h : Rd w w.heap.size A c 2 n (tcs l)) (hn : n ≤ 1000) (k : Int) :
    Calls Try.prog 14 #[.slice A n c, .int .i64 k] w fun e w' => MostPost l k w e w' := by
  have hln := h.plen
  have ST := Lib.hid (Rs.start h)
  clear h
  go_enter Try.func14, Try.ntmps14
  go_wp2_with fail
  generalize (w.alloc (.cells #[.int .i64 0, .int .i64 0] 31)).alloc (.cells #[.int .i64 0, .int .i64 0] 31) = w1 at *
  go_loopg [7, 8, 9] n (fun gh s7 s8 s9 wr => ∃ (i : Nat) (f1 : Bool) (lo : Int) (f2 : Bool) (hi : Int), i ≤ n ∧ n - i ≤ gh ∧ s7 = .bool f1 ∧ s8 = .bool f2 ∧ s9 = .int .i64 i ∧ Hid (k < 1 → f1 = false) ∧ Hid (PCross.HullLow l k i lo f1) ∧ Hid (PCross.HullHigh l k i hi f2) ∧ Hid (Rs w wr A c n l lo hi))
  case atStart => exact ⟨0, false, 0, false, 0, by omega, by omega, rfl, rfl, rfl, Lib.hid (fun _ => rfl), Lib.hid (PCross.HullLow.start l k), Lib.hid (PCross.HullHigh.start l k), ST⟩
  case round =>
    clear ST
    obtain ⟨i, f1, lo, f2, hi, hi1, hgh, rfl, rfl, rfl, HK, HL, HI, ST⟩ := hrel
    by_cases hk : k < 1
    · obtain rfl := HK.out hk
      have HM := Lib.hid (PCross.most_few (L := l) hk)
      go_wp2_with ((with_reducible show wpList _ _ _ ((⟨none, Op.store _ (.tmp 4) _, _, _, _, _⟩ : Oper) :: _) _ _); go_must (refine wpList_store_row rfl 31 _ _ rfl w.heap.size _ rfl rfl _ _ ST.out.res (by kernel_rfl) (by rfl) (by kernel_rfl) ?_))
      have KF := ST.out.res.row #[.int .i64 0, .int .i64 0]
      have BF := Lib.hid (ST.out.b.trans (grown_below (grown_row _ w.heap.size #[.int .i64 0, .int .i64 0]) (Nat.le_refl _) ST.out.b.size))
      go_wp2_with fail
      exact bodyPost_ret (v := .tuple #[rg 0 0, .bool false]) (results_row_tmp (p := 4) (u := 5) rfl _ _ w.heap.size _ _ _ _ rfl rfl KF Try.underlying31 rfl (by kernel_rfl)) rfl (MostPost.mk 0 0 false BF.out HM.out)
    · by_cases hin : i < n
      · obtain ⟨b, o, hA, hbB, k1, k2⟩ := ST.out.l.pair hin
        subst hA
        obtain ⟨x, hx⟩ : ∃ x, (pr l i).1 = x := ⟨_, rfl⟩
        obtain ⟨y, hy⟩ : ∃ y, (pr l i).2 = y := ⟨_, rfl⟩
        rw [hx] at k1
        rw [hy] at k2
        have HP := Lib.hid (And.intro hx hy)
        have jz : (i : Int) < (n : Int) := by omega
        clear hx hy
        by_cases hg : y < x
        · have dg : decide (y < x) = true := decide_eq_true hg
          have HL' := Lib.hid (HL.out.stay (fun h => absurd h (by rw [HP.out.1, HP.out.2]; omega)))
          have HI' := Lib.hid (HI.out.stay (fun h => absurd h (by rw [HP.out.1, HP.out.2]; omega)))
          clear HL HI
          go_wp2_with fail
          go_quiet (fail)
          go_wp2_with fail
          go_roundg (n - (i + 1))
          case measure => omega
          case rel => exact ⟨i + 1, f1, lo, f2, hi, by omega, by omega, rfl, rfl, by go_num, Lib.hid (fun h => absurd h (by omega)), HL', HI', Lib.hid (ST.out.drawn _)⟩
        · have dg : decide (y < x) = false := decide_eq_false hg
          go_wp2_with fail
          go_quiet (fail)
          have ST := Lib.hid (ST.out.drawn nq)
          generalize wr.drewN nq = wr2 at *
          clear k1 k2
          obtain ⟨bb, oo, hA, hbB, k1, k2⟩ := ST.out.l.pair hin
          cases hA
          rw [HP.out.1] at k1
          rw [HP.out.2] at k2
          have r0 := ST.out.r.cell (i := 0) rfl
          have r1 := ST.out.r.cell (i := 1) rfl
          go_upto_region 7 with fail
          go_cut [53] from 10 to 88 (fun s53 wx => ∃ (b : Bool) (q : Nat), s53 = .bool b ∧ Hid (b = true ↔ k ≤ (cnt l x : Int) ∧ (f1 = true → x < lo)) ∧ wx = wr2.drewN q)
          case first =>
            have hc := fun q => rCount_c (wr2.drewN q) w.heap.size _ c n l (ST.out.drawn q).l hn x
            obtain ⟨m, hm⟩ : ∃ m, cnt l x = m := ⟨_, rfl⟩
            rw [hm] at hc
            have HM := Lib.hid hm
            clear hm
            by_cases g1 : k ≤ (m : Int)
            · have d1 : decide (k ≤ (m : Int)) = true := decide_eq_true g1
              cases hf : f1
              · as_aux_lemma =>
                  subst hf
                  go_quiet (first | (go_at_call 16; refine Calls.quiet_of_same (hc _)))
                  go_wp2_with fail
                  go_meet
                  case rel => exact ⟨true, _, rfl, Lib.hid ⟨fun _ => ⟨by rw [HM.out]; exact g1, fun h => by cases h⟩, fun _ => rfl⟩, rfl⟩
              · subst hf
                by_cases g2 : x < lo
                · as_aux_lemma =>
                    have d2 : decide (x < lo) = true := decide_eq_true g2
                    go_quiet (first | (go_at_call 16; refine Calls.quiet_of_same (hc _)))
                    go_wp2_with fail
                    go_meet
                    case rel => exact ⟨true, _, rfl, Lib.hid ⟨fun _ => ⟨by rw [HM.out]; exact g1, fun _ => g2⟩, fun _ => rfl⟩, rfl⟩
                · as_aux_lemma =>
                    have d2 : decide (x < lo) = false := decide_eq_false g2
                    go_quiet (first | (go_at_call 16; refine Calls.quiet_of_same (hc _)))
                    go_wp2_with fail
                    go_meet
                    case rel => exact ⟨false, _, rfl, Lib.hid ⟨fun h => (by cases h), fun h => absurd (h.2 (by trivial)) (by omega)⟩, rfl⟩
            · as_aux_lemma =>
                have d1 : decide (k ≤ (m : Int)) = false := decide_eq_false g1
                go_quiet (first | (go_at_call 16; refine Calls.quiet_of_same (hc _)))
                go_wp2_with fail
                go_meet
                case rel => exact ⟨false, _, rfl, Lib.hid ⟨fun h => (by cases h), fun h => absurd h.1 (by rw [HM.out]; omega)⟩, rfl⟩
          case rest =>
            obtain ⟨b', q, rfl, HB1, rfl⟩ := hcut
            have ST3 := Lib.hid (ST.out.drawn q)
            generalize wr2.drewN q = wr2 at *
            have ST := ST3
            clear ST3
            have r0 := ST.out.r.cell (i := 0) rfl
            have r1 := ST.out.r.cell (i := 1) rfl
            have z0 := ST.out.r.free 0
            obtain ⟨bb, oo, hA, hbB, k1, k2⟩ := ST.out.l.pair hin
            cases hA
            rw [HP.out.1] at k1
            rw [HP.out.2] at k2
            cases b'
            · have HL' := Lib.hid (HL.out.stay (fun _ => ⟨fun h => by rw [HP.out.1]; exact Int.not_le.1 fun h2 => absurd (HB1.out.2 ⟨h2, fun h3 => by rw [h] at h3; cases h3⟩) (by decide), fun h h2 => by
                rw [HP.out.1] at h2 ⊢
                exact Int.not_lt.1 fun h3 => absurd (HB1.out.2 ⟨h2, fun _ => h3⟩) (by decide)⟩))
              clear HL HB1
              go_upto_region 9 with fail
              go_cut [82] from 10 to 88 (fun s82 wx => ∃ (b : Bool) (q : Nat), s82 = .bool b ∧ Hid (b = true ↔ k ≤ (cnt l y : Int) ∧ (f2 = true → hi < y)) ∧ wx = wr2.drewN q)
              case first =>
                have hc := fun q => rCount_c (wr2.drewN q) w.heap.size _ c n l (ST.out.drawn q).l hn y
                obtain ⟨m, hm⟩ : ∃ m, cnt l y = m := ⟨_, rfl⟩
                rw [hm] at hc
                have HM := Lib.hid hm
                clear hm
                by_cases g1 : k ≤ (m : Int)
                · have d1 : decide (k ≤ (m : Int)) = true := decide_eq_true g1
                  cases hf : f2
                  · as_aux_lemma =>
                      subst hf
                      go_quiet (first | (go_at_call 16; refine Calls.quiet_of_same (hc _)))
                      go_wp2_with fail
                      go_meet
                      case rel => exact ⟨true, _, rfl, Lib.hid ⟨fun _ => ⟨by rw [HM.out]; exact g1, fun h => by cases h⟩, fun _ => rfl⟩, rfl⟩
                  · subst hf
                    by_cases g2 : hi < y
                    · as_aux_lemma =>
                        have d2 : decide (hi < y) = true := decide_eq_true g2
                        go_quiet (first | (go_at_call 16; refine Calls.quiet_of_same (hc _)))
                        go_wp2_with fail
                        go_meet
                        case rel => exact ⟨true, _, rfl, Lib.hid ⟨fun _ => ⟨by rw [HM.out]; exact g1, fun _ => g2⟩, fun _ => rfl⟩, rfl⟩
                    · as_aux_lemma =>
                        have d2 : decide (hi < y) = false := decide_eq_false g2
                        go_quiet (first | (go_at_call 16; refine Calls.quiet_of_same (hc _)))
                        go_wp2_with fail
                        go_meet
                        case rel => exact ⟨false, _, rfl, Lib.hid ⟨fun h => (by cases h), fun h => absurd (h.2 (by trivial)) (by omega)⟩, rfl⟩
                · as_aux_lemma =>
                    have d1 : decide (k ≤ (m : Int)) = false := decide_eq_false g1
                    go_quiet (first | (go_at_call 16; refine Calls.quiet_of_same (hc _)))
                    go_wp2_with fail
                    go_meet
                    case rel => exact ⟨false, _, rfl, Lib.hid ⟨fun h => (by cases h), fun h => absurd h.1 (by rw [HM.out]; omega)⟩, rfl⟩

              case rest =>
                obtain ⟨b, q, rfl, HB2, rfl⟩ := hcut
                have ST3 := Lib.hid (ST.out.drawn q)
                have r1 := ST3.out.r.cell (i := 1) rfl
                have z1 := ST3.out.r.free 1
                obtain ⟨bb, oo, hA, hbB, k1, k2⟩ := ST3.out.l.pair hin
                cases hA
                rw [HP.out.1] at k1
                rw [HP.out.2] at k2
                cases b
                · have HH := Lib.hid (HI.out.stay (fun _ => ⟨fun h => by rw [HP.out.2]; exact Int.not_le.1 fun h2 => absurd (HB2.out.2 ⟨h2, fun h3 => by rw [h] at h3; cases h3⟩) (by decide), fun h h2 => by
                    rw [HP.out.2] at h2 ⊢
                    exact Int.not_lt.1 fun h3 => absurd (HB2.out.2 ⟨h2, fun _ => h3⟩) (by decide)⟩))
                  clear HI HB2 ST
                  go_wp2_with fail
                  go_roundg (n - (i + 1))
                  case measure => omega
                  case rel => exact ⟨i + 1, f1, lo, f2, hi, by omega, by omega, rfl, rfl, by go_num, Lib.hid (fun h => absurd h (by omega)), HL', HH, ST3⟩
                · have HH := HI.out.up (by rw [HP.out.2]; exact (HB2.out.1 rfl).1) (fun h => by rw [HP.out.2]; exact (HB2.out.1 rfl).2 h)
                  rw [HP.out.2] at HH
                  have HH := Lib.hid HH
                  have S4 := Lib.hid (ST3.out.high y)
                  clear HI HB2 ST
                  go_wp2_with fail
                  go_roundg (n - (i + 1))
                  case measure => omega
                  case rel => exact ⟨i + 1, f1, lo, true, y, by omega, by omega, rfl, rfl, by go_num, Lib.hid (fun h => absurd h (by omega)), HL', HH, S4⟩
            · have HL' := HL.out.up (by rw [HP.out.1]; exact (HB1.out.1 rfl).1) (fun h => by rw [HP.out.1]; exact (HB1.out.1 rfl).2 h)
              rw [HP.out.1] at HL'
              have HL' := Lib.hid HL'
              have S4 := Lib.hid (ST.out.low x)
              clear HL HB1
              go_upto_region 9 with fail
              generalize wr2.setCell ⟨w.heap.size + 1, 0, none⟩ (.int .i64 x) = wr3 at *
              have ST := S4
              clear S4 r0 r1 z0 k1 k2
              obtain ⟨bb, oo, hA, hbB, k1, k2⟩ := ST.out.l.pair hin
              cases hA
              rw [HP.out.1] at k1
              rw [HP.out.2] at k2
              have r0 := ST.out.r.cell (i := 0) rfl
              have r1 := ST.out.r.cell (i := 1) rfl
              go_cut [82] from 10 to 88 (fun s82 wx => ∃ (b : Bool) (q : Nat), s82 = .bool b ∧ Hid (b = true ↔ k ≤ (cnt l y : Int) ∧ (f2 = true → hi < y)) ∧ wx = wr3.drewN q)
              case first =>
                have hc := fun q => rCount_c (wr3.drewN q) w.heap.size _ c n l (ST.out.drawn q).l hn y
                obtain ⟨m, hm⟩ : ∃ m, cnt l y = m := ⟨_, rfl⟩
                rw [hm] at hc
                have HM := Lib.hid hm
                clear hm
                by_cases g1 : k ≤ (m : Int)
                · have d1 : decide (k ≤ (m : Int)) = true := decide_eq_true g1
                  cases hf : f2
                  · as_aux_lemma =>
                      subst hf
                      go_quiet (first | (go_at_call 16; refine Calls.quiet_of_same (hc _)))
                      go_wp2_with fail
                      go_meet
                      case rel => exact ⟨true, _, rfl, Lib.hid ⟨fun _ => ⟨by rw [HM.out]; exact g1, fun h => by cases h⟩, fun _ => rfl⟩, rfl⟩
                  · subst hf
                    by_cases g2 : hi < y
                    · as_aux_lemma =>
                        have d2 : decide (hi < y) = true := decide_eq_true g2
                        go_quiet (first | (go_at_call 16; refine Calls.quiet_of_same (hc _)))
                        go_wp2_with fail
                        go_meet
                        case rel => exact ⟨true, _, rfl, Lib.hid ⟨fun _ => ⟨by rw [HM.out]; exact g1, fun _ => g2⟩, fun _ => rfl⟩, rfl⟩
                    · as_aux_lemma =>
                        have d2 : decide (hi < y) = false := decide_eq_false g2
                        go_quiet (first | (go_at_call 16; refine Calls.quiet_of_same (hc _)))
                        go_wp2_with fail
                        go_meet
                        case rel => exact ⟨false, _, rfl, Lib.hid ⟨fun h => (by cases h), fun h => absurd (h.2 (by trivial)) (by omega)⟩, rfl⟩
                · as_aux_lemma =>
                    have d1 : decide (k ≤ (m : Int)) = false := decide_eq_false g1
                    go_quiet (first | (go_at_call 16; refine Calls.quiet_of_same (hc _)))
                    go_wp2_with fail
                    go_meet
                    case rel => exact ⟨false, _, rfl, Lib.hid ⟨fun h => (by cases h), fun h => absurd h.1 (by rw [HM.out]; omega)⟩, rfl⟩

              case rest =>
                obtain ⟨b, q, rfl, HB2, rfl⟩ := hcut
                have ST3 := Lib.hid (ST.out.drawn q)
                have r1 := ST3.out.r.cell (i := 1) rfl
                have z1 := ST3.out.r.free 1
                obtain ⟨bb, oo, hA, hbB, k1, k2⟩ := ST3.out.l.pair hin
                cases hA
                rw [HP.out.1] at k1
                rw [HP.out.2] at k2
                cases b
                · have HH := Lib.hid (HI.out.stay (fun _ => ⟨fun h => by rw [HP.out.2]; exact Int.not_le.1 fun h2 => absurd (HB2.out.2 ⟨h2, fun h3 => by rw [h] at h3; cases h3⟩) (by decide), fun h h2 => by
                    rw [HP.out.2] at h2 ⊢
                    exact Int.not_lt.1 fun h3 => absurd (HB2.out.2 ⟨h2, fun _ => h3⟩) (by decide)⟩))
                  clear HI HB2 ST
                  go_wp2_with fail
                  go_roundg (n - (i + 1))
                  case measure => omega
                  case rel => exact ⟨i + 1, true, x, f2, hi, by omega, by omega, rfl, rfl, by go_num, Lib.hid (fun h => absurd h (by omega)), HL', HH, ST3⟩
                · have HH := HI.out.up (by rw [HP.out.2]; exact (HB2.out.1 rfl).1) (fun h => by rw [HP.out.2]; exact (HB2.out.1 rfl).2 h)
                  rw [HP.out.2] at HH
                  have HH := Lib.hid HH
                  have S4 := Lib.hid (ST3.out.high y)
                  clear HI HB2 ST
                  go_wp2_with fail
                  go_roundg (n - (i + 1))
                  case measure => omega
                  case rel => exact ⟨i + 1, true, x, true, y, by omega, by omega, rfl, rfl, by go_num, Lib.hid (fun h => absurd h (by omega)), HL', HH, S4⟩
      · obtain rfl : i = n := by omega
        have HL0 := HL.out
        have HI0 := HI.out
        rw [← hln] at HL0 HI0
        have HLN := Lib.hid HL0
        have HIN := Lib.hid HI0
        clear HL HI HL0 HI0
        have hin' : ¬ (i : Int) < (i : Int) := by omega
        cases f1
        · have HM := Lib.hid (PCross.hull_none (show 1 ≤ k by omega) (Or.inl (by have := HLN.out; have e := (this.no rfl).1; rw [e] at this; exact this)))
          go_wp2_with ((with_reducible show wpList _ _ _ ((⟨none, Op.store _ (.tmp 4) _, _, _, _, _⟩ : Oper) :: _) _ _); go_must (refine wpList_store_row rfl 31 _ _ rfl w.heap.size _ rfl rfl _ _ ST.out.res (by kernel_rfl) (by rfl) (by kernel_rfl) ?_))
          have KF := ST.out.res.row #[.int .i64 0, .int .i64 0]
          have BF := Lib.hid (ST.out.b.trans (grown_below (grown_row _ w.heap.size #[.int .i64 0, .int .i64 0]) (Nat.le_refl _) ST.out.b.size))
          go_wp2_with fail
          exact bodyPost_ret (v := .tuple #[rg 0 0, .bool false]) (results_row_tmp (p := 4) (u := 5) rfl _ _ w.heap.size _ _ _ _ rfl rfl KF Try.underlying31 rfl (by kernel_rfl)) rfl (MostPost.mk 0 0 false BF.out HM.out)
        · cases f2
          · have HM := Lib.hid (PCross.hull_none (x := 0) (show 1 ≤ k by omega) (Or.inr ⟨_, HIN.out⟩))
            go_wp2_with ((with_reducible show wpList _ _ _ ((⟨none, Op.store _ (.tmp 4) _, _, _, _, _⟩ : Oper) :: _) _ _); go_must (refine wpList_store_row rfl 31 _ _ rfl w.heap.size _ rfl rfl _ _ ST.out.res (by kernel_rfl) (by rfl) (by kernel_rfl) ?_))
            have KF := ST.out.res.row #[.int .i64 0, .int .i64 0]
            have BF := Lib.hid (ST.out.b.trans (grown_below (grown_row _ w.heap.size #[.int .i64 0, .int .i64 0]) (Nat.le_refl _) ST.out.b.size))
            go_wp2_with fail
            exact bodyPost_ret (v := .tuple #[rg 0 0, .bool false]) (results_row_tmp (p := 4) (u := 5) rfl _ _ w.heap.size _ _ _ _ rfl rfl KF Try.underlying31 rfl (by kernel_rfl)) rfl (MostPost.mk 0 0 false BF.out HM.out)
          · have HM := Lib.hid (PCross.hull_some HLN.out HIN.out (by omega))
            have r0 := ST.out.r.cell (i := 0) rfl
            have r1 := ST.out.r.cell (i := 1) rfl
            go_wp2_with ((with_reducible show wpList _ _ _ ((⟨none, Op.store _ (.tmp 4) _, _, _, _, _⟩ : Oper) :: _) _ _); go_must (refine wpList_store_row rfl 31 _ _ rfl w.heap.size _ rfl rfl _ _ ST.out.res (by kernel_rfl) (by rfl) (by kernel_rfl) ?_))
            have KF := ST.out.res.row #[.int .i64 lo, .int .i64 hi]
            have BF := Lib.hid (ST.out.b.trans (grown_below (grown_row _ w.heap.size #[.int .i64 lo, .int .i64 hi]) (Nat.le_refl _) ST.out.b.size))
            go_wp2_with fail
            exact bodyPost_ret (v := .tuple #[rg lo hi, .bool true]) (results_row_tmp (p := 4) (u := 5) rfl _ _ w.heap.size _ _ _ _ rfl rfl KF Try.underlying31 rfl (by kernel_rfl)) rfl (MostPost.mk lo hi true BF.out HM.out)
end Go.Proofs.Ytapfdceopbkcgaa
