/- Contracts of package cross: Best. -/
import Derived.Test.YtapfdceopbkcgaaCrossD
namespace Go.Proofs.Ytapfdceopbkcgaa
open Go.RowKit
open PDrift (pr)
open PCross (at_ cnt)

/-- The state of Best: the result's box (block b0), the ends' box (g), the best's (behind it), the two rows. -/
structure Bs (w0 : World) (g : Nat) (w : World) (A1 : Option Addr) (c1 : Nat) (A2 : Option Addr) (c2 m : Nat) (S T : List Int) (lo hi : Int) : Prop where
  res : Blk w w0.heap.size 28 [.int .i64 0, .int .i64 0]
  e : Blk w g 47 [.slice A1 m c1, .slice A2 m c2]
  best : Blk w (g + 1) 28 [.int .i64 lo, .int .i64 hi]
  r1 : Rd w g A1 c1 1 m (is S)
  r2 : Rd w g A2 c2 1 m (is T)
  b : Below w0.heap.size w0 w
  lt : w0.heap.size < g
section
variable {w0 w w' : World} {g : Nat} {A1 : Option Addr} {c1 : Nat} {A2 : Option Addr} {c2 m : Nat} {S T : List Int} {lo hi : Int}
theorem Bs.sz (s : Bs w0 g w A1 c1 A2 c2 m S T lo hi) : g ≤ w.heap.size := Nat.le_of_lt s.e.lt
theorem Bs.past (s : Bs w0 g w A1 c1 A2 c2 m S T lo hi) (hb : Below w.heap.size w w') : Bs w0 g w' A1 c1 A2 c2 m S T lo hi :=
  ⟨s.res.past hb, s.e.past hb, s.best.past hb, s.r1.below (hb.mono s.sz), s.r2.below (hb.mono s.sz), s.b.trans (hb.mono s.b.size), s.lt⟩
theorem Bs.low (s : Bs w0 g w A1 c1 A2 c2 m S T lo hi) (x : Int) : Bs w0 g (w.setCell ⟨g + 1, 0, none⟩ (.int .i64 x)) A1 c1 A2 c2 m S T x hi :=
  have hlt := s.lt
  ⟨s.res.far (grown_set _ _ _ _) (by omega), s.e.far (grown_set _ _ _ _) (by omega), s.best.set 0 _, s.r1.setCell (by simp) _, s.r2.setCell (by simp) _, s.b.setCell (show w0.heap.size ≤ g + 1 by omega) _, s.lt⟩
theorem Bs.high (s : Bs w0 g w A1 c1 A2 c2 m S T lo hi) (x : Int) : Bs w0 g (w.setCell ⟨g + 1, 1, none⟩ (.int .i64 x)) A1 c1 A2 c2 m S T lo x :=
  have hlt := s.lt
  ⟨s.res.far (grown_set _ _ _ _) (by omega), s.e.far (grown_set _ _ _ _) (by omega), s.best.set 1 _, s.r1.setCell (by simp) _, s.r2.setCell (by simp) _, s.b.setCell (show w0.heap.size ≤ g + 1 by omega) _, s.lt⟩
end

set_option maxHeartbeats 1000000 in
set_option maxRecDepth 100000 in
theorem cBest_c (w : World) (A : Option Addr) (c n : Nat) (l : List (Int × Int)) (h : Rd w w.heap.size A c 2 n (tcs l)) (hn : n ≤ 1000) (hF : PCross.Fits l) :
    Calls Try.prog 11 #[.slice A n c] w fun e w' => ∃ (lo hi : Int) (k : Nat), e = .returned (.tuple #[rg lo hi, .int .i64 k]) ∧ Below w.heap.size w w' ∧ k ≤ n ∧ PCross.IsBest l lo hi k := by
  have hln := h.plen
  have R0 := h
  have HF := Lib.hid hF
  clear h hF
  go_enter Try.func11, Try.ntmps11
  go_wp2_with fail
  have b1 := (Below.refl w.heap.size w).alloc (Nat.le_refl _) (.cells #[.int .i64 0, .int .i64 0] 28)
  have K0 := Blk.new w #[.int .i64 0, .int .i64 0] 28
  have R1 := R0.past b1
  generalize w.alloc (.cells #[.int .i64 0, .int .i64 0] 28) = w1 at *
  have R1 := Lib.hid R1.tight
  have B1 := Lib.hid b1
  have K0 := Lib.hid K0
  clear b1 R0
  refine (endsOf_c w1 A c n l R1.out hn).mono ?_
  rintro e w2 ⟨A1, c1, A2, c2, m, rfl, hm, b2, S, T, hE, r1, r2⟩
  unfold ev
  have hS : S.length = m := r1.ilen
  have HE := Lib.hid hE
  have K2 := Lib.hid (K0.out.past b2)
  have B2 := Lib.hid (B1.out.trans (b2.mono B1.out.size))
  have Q1 := Lib.hid r1
  have Q2 := Lib.hid r2
  clear hE b2 B1 K0 R1 r1 r2
  go_upto_region 4 with fail
  have b3 := ((Below.refl w2.heap.size w2).alloc (Nat.le_refl _) (.cells #[.slice A1 m c1, .slice A2 m c2] 47)).alloc (by simp) (.cells #[.int .i64 0, .int .i64 0] 28)
  have K3 := (Blk.new w2 #[.slice A1 m c1, .slice A2 m c2] 47).alloc (.cells #[.int .i64 0, .int .i64 0] 28)
  have K4 := Blk.new (w2.alloc (.cells #[.slice A1 m c1, .slice A2 m c2] 47)) #[.int .i64 0, .int .i64 0] 28
  rw [show (w2.alloc (.cells #[.slice A1 m c1, .slice A2 m c2] 47)).heap.size = w2.heap.size + 1 by simp] at K4
  have KL := Lib.hid K2.out.lt
  have K2 := Lib.hid (K2.out.past b3)
  have Q1 := Lib.hid ((Q1.out.below b3))
  have Q2 := Lib.hid ((Q2.out.below b3))
  generalize (w2.alloc (.cells #[.slice A1 m c1, .slice A2 m c2] 47)).alloc (.cells #[.int .i64 0, .int .i64 0] 28) = w3 at *
  have ST := Lib.hid (show Bs w w2.heap.size w3 A1 c1 A2 c2 m S T 0 0 from ⟨K2.out, K3, K4, Q1.out, Q2.out, B2.out.trans (b3.mono B2.out.size), KL.out⟩)
  have e0 := ST.out.e.cell (i := 0) rfl
  have HI := Lib.hid (PCross.BestInv.start l S)
  clear b3 K3 K4 K2 Q1 Q2 B2 KL
  generalize w2.heap.size = g at *
  go_wp2_with fail
  go_loopw [6, 15] (fun s6 s15 wr => ∃ (j k : Nat) (lo : Int), j ≤ m ∧ k ≤ n ∧ s6 = .int .i64 k ∧ s15 = .int .i64 j ∧ Hid (PCross.BestInv l S j lo k) ∧ Hid (Bs w g wr A1 c1 A2 c2 m S T lo 0)) (fun _ s15 _ => m - (intOf s15).toNat)
  case atStart => exact ⟨0, 0, 0, by omega, by omega, rfl, rfl, HI, ST⟩
  case round =>
    clear ST HI e0
    obtain ⟨j, k, lo, hj, hk, rfl, rfl, HI, ST⟩ := hrel
    by_cases hjm : j < m
    · obtain ⟨b, o, x, rfl, cx, -, hx⟩ := ST.out.r1.int hjm
      have HX := Lib.hid (show at_ S j = x from hx.symm)
      have e0 := ST.out.e.cell (i := 0) rfl
      have e1 := ST.out.e.cell (i := 1) rfl
      clear hx
      go_wp2_with fail
      refine (count_c wr g _ c1 A2 c2 m l S T ST.out.r1 ST.out.r2 HE.out (by omega) (by omega) x).mono ?_
      obtain ⟨q, hq⟩ : ∃ q, cnt l x = q := ⟨_, rfl⟩
      have hqn := PCross.cnt_le l x
      rw [hq] at hqn ⊢
      rintro e w4 ⟨rfl, b4⟩
      have S4 := Lib.hid (ST.out.past b4)
      clear b4 ST e0 e1 cx
      by_cases hqk : k < q
      · have HI' := HI.out.up (j := j) (by rw [HX.out, hq]; exact hqk)
        rw [HX.out, hq] at HI'
        have HI' := Lib.hid HI'
        have e2 := S4.out.best.cell (i := 0) rfl
        have f2 := S4.out.best.free 0
        have S5 := Lib.hid (S4.out.low x)
        clear HI hq S4
        go_wp2_with fail
        go_roundw
        case rel => exact ⟨j + 1, q, x, by omega, by omega, rfl, by go_num, HI', S5⟩
        case measure => simp [intOf]; omega
      · have HI' := Lib.hid (HI.out.stay HE.out (by omega) (by rw [HX.out, hq]; omega))
        clear HI hq
        go_wp2_with fail
        go_roundw
        case rel => exact ⟨j + 1, k, lo, by omega, by omega, rfl, by go_num, HI', S4⟩
        case measure => simp [intOf]; omega
    · obtain rfl : j = m := by omega
      have HI0 := HI.out
      rw [← hS] at HI0
      have HL := Lib.hid (HI0.done HE.out)
      rcases Nat.eq_zero_or_pos k with rfl | hk0
      · have l0 := HL.out.none rfl
        subst l0
        have HB := Lib.hid (PCross.best_none HL.out)
        have e2 := ST.out.best.cell (i := 0) rfl
        have e3 := ST.out.best.cell (i := 1) rfl
        clear HI0
        go_wp2_with ((with_reducible show wpList _ _ _ ((⟨none, Op.store _ (.tmp 2) _, _, _, _, _⟩ : Oper) :: _) _ _); go_must (refine wpList_store_row rfl 28 _ _ rfl w.heap.size _ rfl rfl _ _ ST.out.res (by kernel_rfl) (by rfl) (by kernel_rfl) ?_))
        have hgr := grown_row wr w.heap.size #[.int .i64 0, .int .i64 0]
        have KF := ST.out.res.row #[.int .i64 0, .int .i64 0]
        have BF := Lib.hid (ST.out.b.trans (grown_below hgr (Nat.le_refl _) ST.out.b.size))
        go_wp2_with fail
        refine bodyPost_ret (v := .tuple #[rg 0 0, .int .i64 0]) (results_row_tmp (p := 2) (u := 3) rfl _ _ w.heap.size _ _ _ _ rfl rfl KF Try.underlying28 rfl (by kernel_rfl)) rfl ⟨0, 0, 0, rfl, BF.out, hk, HB.out⟩
      · have h0 : 0 < j := by
          rcases Nat.eq_zero_or_pos j with e | e
          · subst e
            obtain ⟨k', h1, _⟩ := HI.out.some hk0
            omega
          · exact e
        have e0 := ST.out.e.cell (i := 0) rfl
        have e1 := ST.out.e.cell (i := 1) rfl
        have e2 := ST.out.best.cell (i := 0) rfl
        clear HI0
        go_wp2_with fail
        refine (runEnd_c wr A1 c1 A2 c2 j l S T (ST.out.r1.more ST.out.sz) (ST.out.r2.more ST.out.sz) HE.out h0 (by omega) HF.out lo k HL.out hk0).mono ?_
        rintro e w4 ⟨hi, rfl, hB, b4⟩
        have S4 := Lib.hid (ST.out.past b4)
        have HB := Lib.hid hB
        have S5 := Lib.hid (S4.out.high hi)
        have e3 := S4.out.best.cell (i := 1) rfl
        have f3 := S4.out.best.free 1
        have e4 := S4.out.best.cell (i := 0) rfl
        clear b4 ST hB e0 e1 e2
        go_wp2_with ((with_reducible show wpList _ _ _ ((⟨none, Op.store _ (.tmp 2) _, _, _, _, _⟩ : Oper) :: _) _ _); go_must (refine wpList_store_row rfl 28 _ _ rfl w.heap.size _ rfl rfl _ _ S5.out.res (by kernel_rfl) (by rfl) (by kernel_rfl) ?_))
        have hgr := grown_row (w4.setCell ⟨g + 1, 1, none⟩ (.int .i64 hi)) w.heap.size #[.int .i64 lo, .int .i64 hi]
        have KF := S5.out.res.row #[.int .i64 lo, .int .i64 hi]
        have BF := Lib.hid (S5.out.b.trans (grown_below hgr (Nat.le_refl _) S5.out.b.size))
        go_wp2_with fail
        refine bodyPost_ret (v := .tuple #[rg lo hi, .int .i64 k]) (results_row_tmp (p := 2) (u := 3) rfl _ _ w.heap.size _ _ _ _ rfl rfl KF Try.underlying28 rfl (by kernel_rfl)) rfl ⟨lo, hi, k, rfl, BF.out, hk, HB.out⟩
end Go.Proofs.Ytapfdceopbkcgaa
