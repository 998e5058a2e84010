/- The document's Best. -/
import Derived.Test.YtapfdceopbkcgaaCrossG
namespace Go.Proofs.Ytapfdceopbkcgaa
open Go.RowKit
open PDrift (pr)
open PCross (at_ cnt)

/-- The state of the document's functions: the result's box (block b0), r's (behind it), the list. -/
structure Rs (w0 w : World) (A : Option Addr) (c n : Nat) (l : List (Int × Int)) (lo hi : Int) : Prop where
  res : Blk w w0.heap.size 31 [.int .i64 0, .int .i64 0]
  r : Blk w (w0.heap.size + 1) 31 [.int .i64 lo, .int .i64 hi]
  l : Rd w w0.heap.size A c 2 n (tcs l)
  b : Below w0.heap.size w0 w
section
variable {w0 w w' : World} {A : Option Addr} {c n : Nat} {l : List (Int × Int)} {lo hi : Int}
theorem Rs.low (s : Rs w0 w A c n l lo hi) (x : Int) : Rs w0 (w.setCell ⟨w0.heap.size + 1, 0, none⟩ (.int .i64 x)) A c n l x hi :=
  ⟨s.res.far (grown_set _ _ _ _) (by omega), s.r.set 0 _, s.l.setCell (by simp) _, s.b.setCell (show w0.heap.size ≤ w0.heap.size + 1 by omega) _⟩
theorem Rs.high (s : Rs w0 w A c n l lo hi) (x : Int) : Rs w0 (w.setCell ⟨w0.heap.size + 1, 1, none⟩ (.int .i64 x)) A c n l lo x :=
  ⟨s.res.far (grown_set _ _ _ _) (by omega), s.r.set 1 _, s.l.setCell (by simp) _, s.b.setCell (show w0.heap.size ≤ w0.heap.size + 1 by omega) _⟩
theorem Rs.drawn (s : Rs w0 w A c n l lo hi) (q : Nat) : Rs w0 (w.drewN q) A c n l lo hi := ⟨s.res, s.r, s.l, bel_drawn s.b q⟩
theorem Rs.start (h : Rd w0 w0.heap.size A c 2 n (tcs l)) : Rs w0 ((w0.alloc (.cells #[.int .i64 0, .int .i64 0] 31)).alloc (.cells #[.int .i64 0, .int .i64 0] 31)) A c n l 0 0 := by
  have K1 := Blk.new (w0.alloc (.cells #[.int .i64 0, .int .i64 0] 31)) #[.int .i64 0, .int .i64 0] 31
  rw [show (w0.alloc (.cells #[.int .i64 0, .int .i64 0] 31)).heap.size = w0.heap.size + 1 by simp] at K1
  exact ⟨(Blk.new w0 _ _).alloc _, K1, (h.alloc _).alloc _, ((Below.refl w0.heap.size w0).alloc (Nat.le_refl _) _).alloc (by simp) _⟩
end

set_option maxHeartbeats 2000000 in
set_option maxRecDepth 100000 in
theorem rBest_c (w : World) (A : Option Addr) (c n : Nat) (l : List (Int × Int)) (h : Rd w w.heap.size A c 2 n (tcs l)) (hn : n ≤ 1000) (hF : PCross.Fits l) :
    Calls Try.prog 12 #[.slice A n c] w fun e w' => ∃ (lo hi : Int) (k : Nat), e = .returned (.tuple #[rg lo hi, .int .i64 k]) ∧ Below w.heap.size w w' ∧ k ≤ n ∧ PCross.IsBest l lo hi k := by
  have hln := h.plen
  have HF := Lib.hid hF
  have ST := Lib.hid (Rs.start h)
  clear h hF
  go_enter Try.func12, Try.ntmps12
  go_wp2_with fail
  generalize (w.alloc (.cells #[.int .i64 0, .int .i64 0] 31)).alloc (.cells #[.int .i64 0, .int .i64 0] 31) = w1 at *
  have HI := Lib.hid (PCross.RefInv.start l)
  go_loopw [4, 6] (fun s4 s6 wr => ∃ (i k : Nat) (lo : Int), i ≤ n ∧ k ≤ n ∧ s4 = .int .i64 k ∧ s6 = .int .i64 i ∧ Hid (PCross.RefInv l i lo k) ∧ Hid (Rs w wr A c n l lo 0)) (fun _ s6 _ => n - (intOf s6).toNat)
  case atStart => exact ⟨0, 0, 0, by omega, by omega, rfl, rfl, HI, ST⟩
  case round =>
    clear ST HI
    obtain ⟨i, k, lo, hi, hk, rfl, rfl, HI, ST⟩ := hrel
    by_cases hin : i < n
    · obtain ⟨b, o, hA, hbB, k1, k2⟩ := ST.out.l.pair hin
      subst hA
      obtain ⟨x, hx⟩ : ∃ x, (pr l i).1 = x := ⟨_, rfl⟩
      obtain ⟨y, hy⟩ : ∃ y, (pr l i).2 = y := ⟨_, rfl⟩
      rw [hx] at k1
      rw [hy] at k2
      have HP := Lib.hid (And.intro hx hy)
      have r0 := ST.out.r.cell (i := 0) rfl
      have z0 := ST.out.r.free 0
      have jz : (i : Int) < (n : Int) := by omega
      obtain ⟨q, hq⟩ : ∃ q, cnt l x = q := ⟨_, rfl⟩
      have hqn := PCross.cnt_le l x
      rw [hq] at hqn
      have HQ := Lib.hid hq
      clear hx hy hq
      go_wp2_with fail
      refine (rCount_c wr w.heap.size _ c n l ST.out.l hn x).mono ?_
      rw [HQ.out]
      rintro e w2 ⟨rfl, rfl⟩
      rcases (by omega : ¬ x ≤ y ∨ x ≤ y ∧ k < q ∨ x ≤ y ∧ ¬ k < q ∧ q ≠ k ∨ x ≤ y ∧ q = k ∧ x < lo ∨ x ≤ y ∧ q = k ∧ ¬ x < lo) with g1 | ⟨g1, g2⟩ | ⟨g1, g2, g3⟩ | ⟨g1, g2, g3⟩ | ⟨g1, g2, g3⟩
      · have d1 : decide (x ≤ y) = false := decide_eq_false g1
        have HI' := Lib.hid (HI.out.bad (by rw [HP.out.1, HP.out.2]; exact g1))
        clear HI
        go_wp2_with fail
        go_quiet (fail)
        go_wp2_with fail
        go_roundw
        case rel => exact ⟨i + 1, k, lo, by omega, by omega, rfl, by go_num, HI', Lib.hid (ST.out.drawn _)⟩
        case measure => simp [intOf]; omega
      · have d1 : decide (x ≤ y) = true := decide_eq_true g1
        have d2 : decide ((k : Int) < (q : Int)) = true := decide_eq_true (by omega)
        have HI' := HI.out.up (by omega) (by rw [HP.out.1, HP.out.2]; exact g1) (Or.inl (by rw [HP.out.1, HQ.out]; exact g2))
        rw [HP.out.1, HQ.out] at HI'
        have HI' := Lib.hid HI'
        clear HI
        go_wp2_with fail
        go_quiet (fail)
        go_wp2_with fail
        go_roundw
        case rel => exact ⟨i + 1, q, x, by omega, by omega, rfl, by go_num, HI', Lib.hid ((ST.out.low x).drawn _)⟩
        case measure => simp [intOf]; omega
      · have d1 : decide (x ≤ y) = true := decide_eq_true g1
        have d2 : decide ((k : Int) < (q : Int)) = false := decide_eq_false (by omega)
        have d3 : ((q : Int) == (k : Int)) = false := by simp; omega
        have HI' := Lib.hid (HI.out.stay (by rw [HP.out.1, HQ.out]; omega) (by rw [HP.out.1, HQ.out]; omega))
        clear HI
        go_wp2_with fail
        go_quiet (fail)
        go_wp2_with fail
        go_roundw
        case rel => exact ⟨i + 1, k, lo, by omega, by omega, rfl, by go_num, HI', Lib.hid (ST.out.drawn _)⟩
        case measure => simp [intOf]; omega
      · subst g2
        have d1 : decide (x ≤ y) = true := decide_eq_true g1
        have d2 : decide ((q : Int) < (q : Int)) = false := decide_eq_false (by omega)
        have d4 : decide (x < lo) = true := decide_eq_true g3
        have HI' := HI.out.up (by omega) (by rw [HP.out.1, HP.out.2]; exact g1) (Or.inr (by rw [HP.out.1, HQ.out]; exact ⟨rfl, g3⟩))
        rw [HP.out.1, HQ.out] at HI'
        have HI' := Lib.hid HI'
        clear HI
        go_wp2_with fail
        go_quiet (fail)
        go_wp2_with fail
        go_roundw
        case rel => exact ⟨i + 1, q, x, by omega, by omega, rfl, by go_num, HI', Lib.hid ((ST.out.low x).drawn _)⟩
        case measure => simp [intOf]; omega
      · subst g2
        have d1 : decide (x ≤ y) = true := decide_eq_true g1
        have d2 : decide ((q : Int) < (q : Int)) = false := decide_eq_false (by omega)
        have d4 : decide (x < lo) = false := decide_eq_false g3
        have HI' := Lib.hid (HI.out.stay (by rw [HP.out.1, HQ.out]; omega) (by rw [HP.out.1, HQ.out]; omega))
        clear HI
        go_wp2_with fail
        go_quiet (fail)
        go_wp2_with fail
        go_roundw
        case rel => exact ⟨i + 1, q, lo, by omega, by omega, rfl, by go_num, HI', Lib.hid (ST.out.drawn _)⟩
        case measure => simp [intOf]; omega
    · obtain rfl : i = n := by omega
      have HI0 := HI.out
      rw [← hln] at HI0
      have HL := Lib.hid HI0.done
      clear HI0 HI
      rcases Nat.eq_zero_or_pos k with rfl | hk0
      · have l0 := HL.out.none rfl
        subst l0
        have HB := Lib.hid (PCross.best_none HL.out)
        go_wp2_with ((with_reducible show wpList _ _ _ ((⟨none, Op.store _ (.tmp 2) _, _, _, _, _⟩ : Oper) :: _) _ _); go_must (refine wpList_store_row rfl 31 _ _ rfl w.heap.size _ rfl rfl _ _ ST.out.res (by kernel_rfl) (by rfl) (by kernel_rfl) ?_))
        have hgr := grown_row wr w.heap.size #[.int .i64 0, .int .i64 0]
        have KF := ST.out.res.row #[.int .i64 0, .int .i64 0]
        have BF := Lib.hid (ST.out.b.trans (grown_below hgr (Nat.le_refl _) ST.out.b.size))
        go_wp2_with fail
        refine bodyPost_ret (v := .tuple #[rg 0 0, .int .i64 0]) (results_row_tmp (p := 2) (u := 3) rfl _ _ w.heap.size _ _ _ _ rfl rfl KF Try.underlying31 rfl (by kernel_rfl)) rfl ⟨0, 0, 0, rfl, BF.out, hk, HB.out⟩
      · have hkz : ((k : Int) == (0 : Int)) = false := by simp; omega
        have r0 := ST.out.r.cell (i := 0) rfl
        go_wp2_with fail
        refine (rEnds_c wr w.heap.size A c i l ST.out.l hn lo).mono ?_
        rintro e w2 ⟨r, rfl, hE, rfl⟩
        rw [← hln] at hE
        have HD := Lib.hid (PCross.DocRun.start HF.out HL.out hk0 hE)
        have z1 := ST.out.r.free 1
        have r1 := ST.out.r.cell (i := 1) rfl
        have S2 := Lib.hid (ST.out.high r)
        clear ST hE
        go_wp2_with fail
        generalize w2.setCell ⟨w.heap.size + 1, 1, none⟩ (.int .i64 r) = w3 at *
        clear z1 r1 r0
        go_loopg [] (9223372036854775807 - r).toNat (fun gh wx => ∃ hi : Int, (9223372036854775807 - hi).toNat ≤ gh ∧ Hid (PCross.DocRun l lo k hi) ∧ Hid (Rs w wx A c i l lo hi))
        case atStart => exact ⟨r, Nat.le_refl _, HD, S2⟩
        case round =>
          clear HD S2
          obtain ⟨hi, hgh, HD, ST⟩ := hrel
          have r0 := ST.out.r.cell (i := 0) rfl
          have r1 := ST.out.r.cell (i := 1) rfl
          have hr := HF.out.range (t := hi) (by rw [HD.out.all hi HD.out.le (Int.le_refl _)]; exact hk0)
          by_cases hlt : hi < 9223372036854775807
          · obtain ⟨q, hq⟩ : ∃ q, cnt l (hi + 1) = q := ⟨_, rfl⟩
            have HQ := Lib.hid hq
            by_cases hc : q = k
            · subst hc
              go_wp2_with fail
              refine (rCount_c _ w.heap.size A c i l ST.out.l hn (hi + 1)).mono ?_
              rw [HQ.out]
              rintro e w4 ⟨rfl, rfl⟩
              go_wp2_with fail
              refine (rEnds_c _ w.heap.size A c i l ST.out.l hn (hi + 1)).mono ?_
              rintro e w4 ⟨r', rfl, hE, rfl⟩
              rw [← hln] at hE
              obtain ⟨n1, n2⟩ := PCross.DocRun.next HF.out HL.out hk0 HD.out HQ.out hE
              have z1 := ST.out.r.free 1
              have HD' := Lib.hid n1
              have ht := n1.top
              have S3 := Lib.hid (ST.out.high r')
              clear n1 hE HD hq
              go_wp2_with fail
              go_roundg (9223372036854775807 - r').toNat
              case measure => omega
              case rel => exact ⟨r', Nat.le_refl _, HD', S3⟩
            · have hcz : ((q : Int) == (k : Int)) = false := by simp; omega
              have HB := Lib.hid (PCross.DocRun.done HF.out HL.out hk0 HD.out (by rw [HQ.out]; exact fun h => hc h.2))
              clear HD
              go_wp2_with fail
              refine (rCount_c _ w.heap.size A c i l ST.out.l hn (hi + 1)).mono ?_
              rw [HQ.out]
              rintro e w4 ⟨rfl, rfl⟩
              go_wp2_with ((with_reducible show wpList _ _ _ ((⟨none, Op.store _ (.tmp 2) _, _, _, _, _⟩ : Oper) :: _) _ _); go_must (refine wpList_store_row rfl 31 _ _ rfl w.heap.size _ rfl rfl _ _ ST.out.res (by kernel_rfl) (by rfl) (by kernel_rfl) ?_))
              have KF := ST.out.res.row #[.int .i64 lo, .int .i64 hi]
              have BF := Lib.hid (ST.out.b.trans (grown_below (grown_row _ w.heap.size #[.int .i64 lo, .int .i64 hi]) (Nat.le_refl _) ST.out.b.size))
              go_wp2_with fail
              refine bodyPost_ret (v := .tuple #[rg lo hi, .int .i64 k]) (results_row_tmp (p := 2) (u := 3) rfl _ _ w.heap.size _ _ _ _ rfl rfl KF Try.underlying31 rfl (by kernel_rfl)) rfl ⟨lo, hi, k, rfl, BF.out, hk, HB.out⟩
          · have HB := Lib.hid (PCross.DocRun.done HF.out HL.out hk0 HD.out (fun h => hlt h.1))
            clear HD
            go_wp2_with ((with_reducible show wpList _ _ _ ((⟨none, Op.store _ (.tmp 2) _, _, _, _, _⟩ : Oper) :: _) _ _); go_must (refine wpList_store_row rfl 31 _ _ rfl w.heap.size _ rfl rfl _ _ ST.out.res (by kernel_rfl) (by rfl) (by kernel_rfl) ?_))
            have KF := ST.out.res.row #[.int .i64 lo, .int .i64 hi]
            have BF := Lib.hid (ST.out.b.trans (grown_below (grown_row _ w.heap.size #[.int .i64 lo, .int .i64 hi]) (Nat.le_refl _) ST.out.b.size))
            go_wp2_with fail
            refine bodyPost_ret (v := .tuple #[rg lo hi, .int .i64 k]) (results_row_tmp (p := 2) (u := 3) rfl _ _ w.heap.size _ _ _ _ rfl rfl KF Try.underlying31 rfl (by kernel_rfl)) rfl ⟨lo, hi, k, rfl, BF.out, hk, HB.out⟩
end Go.Proofs.Ytapfdceopbkcgaa
