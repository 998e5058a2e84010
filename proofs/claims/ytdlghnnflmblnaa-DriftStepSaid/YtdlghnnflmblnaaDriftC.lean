/- Contracts of package drift: Fault, May. -/
import Derived.Test.YtdlghnnflmblnaaDriftB
namespace Go.Proofs.Ytdlghnnflmblnaa
open Go.RowKit
open PDrift (pr)

/-- A mark's cells. -/
def mc (m : Int × Int × Int) : List Value := [.int .i64 m.1, .int .i64 m.2.1, .int .i64 m.2.2]

/-- What the loop keeps. -/
structure FSt (w0 : World) (B : Nat) (A : Option Addr) (c n : Nat) (l : List (Int × Int)) (d : Int) (g : Nat) (i : Nat) (m : Int × Int × Int) (w : World) : Prop where
  acc : i = 0 ∨ (PDrift.Acc l d i m ∧ PDrift.Bd m)
  kept : ∀ k, k < i → PDrift.Kept l d k
  list : Rd w B A c 2 n (tcs l)
  all : Blk w g 42 (mc m)
  low : w0.heap.size ≤ g
  below : Below w0.heap.size w0 w
section
variable {w0 w w' : World} {B c n g i : Nat} {A : Option Addr} {l : List (Int × Int)} {d : Int} {m : Int × Int × Int}
theorem FSt.past (h : FSt w0 B A c n l d g i m w) (hb : Below w.heap.size w w') : FSt w0 B A c n l d g i m w' :=
  ⟨h.acc, h.kept, h.list.past hb, h.all.past hb, h.low, h.below.trans (hb.mono h.below.size)⟩
end

set_option maxHeartbeats 1000000 in
set_option maxRecDepth 100000 in
theorem Fault_c (w : World) (A : Option Addr) (c n : Nat) (l : List (Int × Int)) (d : Int) (h : Rd w w.heap.size A c 2 n (tcs l)) :
    Calls Try.prog 10 #[.slice A n c, .int .i64 d] w fun e w' => e = .returned (.int .i64 (PDrift.fault l d)) ∧ Below w.heap.size w w' := by
  have hln := h.plen
  have hcap := h.cap
  have hle := h.le
  unfold maxLen at hcap
  have R0 := Lib.hid h
  clear h
  by_cases hd : PDrift.Rate d
  · by_cases hg : PDrift.Good l
    · have HD := Lib.hid (decide_eq_true hd)
      have HG := Lib.hid (decide_eq_true hg)
      have HRG := Lib.hid (And.intro hd hg)
      clear hd hg
      go_enter Try.func10, Try.ntmps10
      go_wp2_with fail
      refine (dRate_c w d).mono ?_
      rw [HD.out]
      rintro e w' ⟨rfl, rfl⟩
      go_wp2_with fail
      refine (inOrder_c w _ _ _ _ l R0.out).mono ?_
      rw [HG.out]
      rintro e w1 ⟨rfl, b1⟩
      go_wp2_with fail
      have F0 := Lib.hid (show FSt w w.heap.size A c n l d w1.heap.size 0 (0, 0, 0) (w1.alloc (.cells #[.int .i64 0, .int .i64 0, .int .i64 0] 42)) from
        ⟨.inl rfl, fun k hk => absurd hk (by omega), (R0.out.past b1).alloc _, Blk.new _ _ _, b1.size, b1.alloc b1.size _⟩)
      clear R0 b1
      go_loopw [19] (fun s19 wr => ∃ (i : Nat) (m : Int × Int × Int), i ≤ n ∧ s19 = .int .i64 i ∧ Hid (FSt w w.heap.size A c n l d w1.heap.size i m wr)) (fun s19 _ => n - (intOf s19).toNat)
      case atStart => exact ⟨0, (0, 0, 0), by omega, rfl, F0⟩
      case round =>
        clear F0
        obtain ⟨i, m, hi, rfl, FT⟩ := hrel
        by_cases hin : i < n
        · obtain ⟨b, o, hA, hb, c1, c2⟩ := FT.out.list.pair hin
          subst hA
          go_wp2_with fail
          refine (markOf_c _ (pr l i) d (HRG.out.2 i (by omega)).1 HRG.out.1).mono ?_
          have b2 := (Below.refl wr.heap.size wr).alloc (Nat.le_refl _) (.cells #[.int .i64 (pr l i).1, .int .i64 (pr l i).2] 31)
          have F2 := Lib.hid (FT.out.past b2)
          generalize wr.alloc (.cells #[.int .i64 (pr l i).1, .int .i64 (pr l i).2] 31) = w2 at *
          rintro e w3 ⟨rfl, b3⟩
          have F3 := Lib.hid (F2.out.past b3)
          have HB := Lib.hid (PDrift.mk_bd (HRG.out.2 i (by omega)).1 HRG.out.1)
          obtain ⟨⟨p, q, r⟩, hm⟩ : ∃ x, x = PDrift.mk d (pr l i) := ⟨_, rfl⟩
          rw [← hm] at HB ⊢
          have HM := Lib.hid hm
          clear F2 b2 b3 hm c1 c2
          simp only [mv]
          have NA := Lib.hid (Blk.new w3 #[.int .i64 p, .int .i64 q, .int .i64 r] 42)
          have KA := Lib.hid (F3.out.all.alloc (.cells #[.int .i64 p, .int .i64 q, .int .i64 r] 42))
          have BA := Lib.hid (F3.out.below.alloc F3.out.below.size (.cells #[.int .i64 p, .int .i64 q, .int .i64 r] 42))
          have RA := Lib.hid (F3.out.list.alloc (.cells #[.int .i64 p, .int .i64 q, .int .i64 r] 42))
          have hg3 : w1.heap.size < w3.heap.size := F3.out.all.lt
          rcases i with _ | j
          · have hgr := grown_row (w3.alloc (.cells #[.int .i64 p, .int .i64 q, .int .i64 r] 42)) w1.heap.size #[.int .i64 p, .int .i64 q, .int .i64 r]
            have K4 := Lib.hid (KA.out.row #[.int .i64 p, .int .i64 q, .int .i64 r])
            have N4 := Lib.hid (NA.out.far hgr (by omega))
            have B4 := Lib.hid (BA.out.trans (grown_below hgr FT.out.low BA.out.size))
            have R4 := Lib.hid (RA.out.below (grown_below hgr FT.out.low BA.out.size))
            have a0 := K4.out.cell (i := 0) rfl
            have a1 := K4.out.cell (i := 1) rfl
            have a2 := K4.out.cell (i := 2) rfl
            have n0 := N4.out.cell (i := 0) rfl
            have n1 := N4.out.cell (i := 1) rfl
            have n2 := N4.out.cell (i := 2) rfl
            go_wp2_with ((with_reducible show wpList _ _ _ ((⟨none, Op.store 42 (.tmp 5) _, _, _, _, _⟩ : Oper) :: _) _ _); go_must (refine wpList_store_row rfl 42 _ _ rfl w1.heap.size _ rfl rfl _ _ KA.out (by kernel_rfl) (by rfl) (by kernel_rfl) ?_))
            clear NA BA RA a0 a1 a2 n0 n1 n2 hgr
            clear KA
            generalize (w3.alloc (.cells #[.int .i64 p, .int .i64 q, .int .i64 r] 42)).setRow w1.heap.size #[.int .i64 p, .int .i64 q, .int .i64 r] = w4 at *
            have HBM := HB
            have HKP := Lib.hid (PDrift.mk_self (p, q, r))
            have HNX := Lib.hid (show PDrift.Acc l d (0 + 1) (PDrift.mwith (p, q, r) (p, q, r)) ∧ PDrift.Bd (PDrift.mwith (p, q, r) (p, q, r)) from ⟨by rw [HM.out]; exact PDrift.Acc.first l d, PDrift.with_bd HB.out HB.out⟩)
            have HKS := Lib.hid (show ∀ k, k < 0 + 1 → PDrift.Kept l d k from fun k hk => by
              obtain rfl : k = 0 := by omega
              exact PDrift.kept_zero l d)
            refine (mkeeps_c w4 (p, q, r) (p, q, r) HBM.out HB.out).mono ?_
            rw [decide_eq_true HKP.out]
            rintro e w5 ⟨rfl, b5⟩
            have K5 := Lib.hid (K4.out.past b5)
            have N5 := N4.out.past b5
            have B5 := Lib.hid (B4.out.trans (b5.mono B4.out.size))
            have R5 := Lib.hid (R4.out.past b5)
            have a0 := K5.out.cell (i := 0) rfl
            have a1 := K5.out.cell (i := 1) rfl
            have a2 := K5.out.cell (i := 2) rfl
            have n0 := N5.cell (i := 0) rfl
            have n1 := N5.cell (i := 1) rfl
            have n2 := N5.cell (i := 2) rfl
            clear N5 K4 N4 B4 R4 b5
            go_wp2_with fail
            refine (mwith_c w5 (p, q, r) (p, q, r)).mono ?_
            rintro e w6 ⟨rfl, b6⟩
            have K6 := Lib.hid (K5.out.past b6)
            have B6 := Lib.hid (B5.out.trans (b6.mono B5.out.size))
            have R6 := Lib.hid (R5.out.past b6)
            clear a0 a1 a2 n0 n1 n2 K5 B5 R5 b6
            obtain ⟨⟨p', q', r'⟩, hm'⟩ : ∃ u, u = PDrift.mwith (p, q, r) (p, q, r) := ⟨_, rfl⟩
            rw [← hm'] at HNX ⊢
            have HM' := Lib.hid hm'; clear hm'
            simp only [mv]
            go_wp2_with ((with_reducible show wpList _ _ _ ((⟨none, Op.store 42 (.tmp 5) _, _, _, _, _⟩ : Oper) :: _) _ _); go_must (refine wpList_store_row rfl 42 _ _ rfl w1.heap.size _ rfl rfl _ _ K6.out (by kernel_rfl) (by rfl) (by kernel_rfl) ?_))
            have hgr := grown_row w6 w1.heap.size #[.int .i64 p', .int .i64 q', .int .i64 r']
            have K7 := K6.out.row #[.int .i64 p', .int .i64 q', .int .i64 r']
            have B7 := B6.out.trans (grown_below hgr FT.out.low B6.out.size)
            have R7 := R6.out.below (grown_below hgr FT.out.low B6.out.size)
            generalize w6.setRow w1.heap.size #[.int .i64 p', .int .i64 q', .int .i64 r'] = w7 at *
            go_roundw
            case rel => exact ⟨0 + 1, (p', q', r'), by omega, by go_num, Lib.hid ⟨.inr HNX.out, HKS.out, R7, K7, FT.out.low, B7⟩⟩
            case measure => simp [intOf]; omega
          · obtain ⟨x, y, z⟩ := m
            obtain ⟨hac, hbd⟩ := F3.out.acc.resolve_left (by omega)
            have HBM := Lib.hid hbd
            have hk := hac.kept
            rw [← HM.out] at hk
            have K4 := KA
            have N4 := NA
            have B4 := BA
            have R4 := RA
            have a0 := K4.out.cell (i := 0) rfl
            have a1 := K4.out.cell (i := 1) rfl
            have a2 := K4.out.cell (i := 2) rfl
            have n0 := N4.out.cell (i := 0) rfl
            have n1 := N4.out.cell (i := 1) rfl
            have n2 := N4.out.cell (i := 2) rfl
            have HAC := Lib.hid hac
            clear hbd hac NA KA BA RA
            by_cases hkp : PDrift.mkeeps (x, y, z) (p, q, r)
            · have HKP := Lib.hid hkp
              have HNX := Lib.hid (show PDrift.Acc l d (j + 1 + 1) (PDrift.mwith (x, y, z) (p, q, r)) ∧ PDrift.Bd (PDrift.mwith (x, y, z) (p, q, r)) from ⟨by rw [HM.out]; exact HAC.out.with, PDrift.with_bd HBM.out HB.out⟩)
              have HKS := Lib.hid (show ∀ k, k < j + 1 + 1 → PDrift.Kept l d k from PDrift.all_succ.2 ⟨F3.out.kept, hk.1 hkp⟩)
              clear hk hkp
              go_wp2_with fail
              clear a0 a1 a2 n0 n1 n2
              generalize w3.alloc (.cells #[.int .i64 p, .int .i64 q, .int .i64 r] 42) = w4 at *
              refine (mkeeps_c w4 (x, y, z) (p, q, r) HBM.out HB.out).mono ?_
              rw [decide_eq_true HKP.out]
              rintro e w5 ⟨rfl, b5⟩
              have K5 := Lib.hid (K4.out.past b5)
              have N5 := N4.out.past b5
              have B5 := Lib.hid (B4.out.trans (b5.mono B4.out.size))
              have R5 := Lib.hid (R4.out.past b5)
              have a0 := K5.out.cell (i := 0) rfl
              have a1 := K5.out.cell (i := 1) rfl
              have a2 := K5.out.cell (i := 2) rfl
              have n0 := N5.cell (i := 0) rfl
              have n1 := N5.cell (i := 1) rfl
              have n2 := N5.cell (i := 2) rfl
              clear N5 K4 N4 B4 R4 b5
              go_wp2_with fail
              refine (mwith_c w5 (x, y, z) (p, q, r)).mono ?_
              rintro e w6 ⟨rfl, b6⟩
              have K6 := Lib.hid (K5.out.past b6)
              have B6 := Lib.hid (B5.out.trans (b6.mono B5.out.size))
              have R6 := Lib.hid (R5.out.past b6)
              clear a0 a1 a2 n0 n1 n2 K5 B5 R5 b6
              obtain ⟨⟨p', q', r'⟩, hm'⟩ : ∃ u, u = PDrift.mwith (x, y, z) (p, q, r) := ⟨_, rfl⟩
              rw [← hm'] at HNX ⊢
              have HM' := Lib.hid hm'; clear hm'
              simp only [mv]
              go_wp2_with ((with_reducible show wpList _ _ _ ((⟨none, Op.store 42 (.tmp 5) _, _, _, _, _⟩ : Oper) :: _) _ _); go_must (refine wpList_store_row rfl 42 _ _ rfl w1.heap.size _ rfl rfl _ _ K6.out (by kernel_rfl) (by rfl) (by kernel_rfl) ?_))
              have hgr := grown_row w6 w1.heap.size #[.int .i64 p', .int .i64 q', .int .i64 r']
              have K7 := K6.out.row #[.int .i64 p', .int .i64 q', .int .i64 r']
              have B7 := B6.out.trans (grown_below hgr FT.out.low B6.out.size)
              have R7 := R6.out.below (grown_below hgr FT.out.low B6.out.size)
              generalize w6.setRow w1.heap.size #[.int .i64 p', .int .i64 q', .int .i64 r'] = w7 at *
              go_roundw
              case rel => exact ⟨(j + 1) + 1, (p', q', r'), by omega, by go_num, Lib.hid ⟨.inr HNX.out, HKS.out, R7, K7, FT.out.low, B7⟩⟩
              case measure => simp [intOf]; omega
            · have HKP := Lib.hid hkp
              have HF := Lib.hid (PDrift.fault_some HRG.out.1 HRG.out.2 (show j + 1 < l.length by omega) F3.out.kept (fun h => hkp (hk.2 h)))
              clear hk hkp
              go_wp2_with fail
              clear a0 a1 a2 n0 n1 n2
              generalize w3.alloc (.cells #[.int .i64 p, .int .i64 q, .int .i64 r] 42) = w4 at *
              refine (mkeeps_c w4 (x, y, z) (p, q, r) HBM.out HB.out).mono ?_
              rw [decide_eq_false HKP.out]
              rintro e w5 ⟨rfl, b5⟩
              have B5 := Lib.hid (B4.out.trans (b5.mono B4.out.size))
              go_wp2_with fail
              go_ret
              exact ⟨by rw [HF.out]; rfl, B5.out⟩
        · go_wp2_with fail
          go_ret
          exact ⟨by rw [PDrift.fault_none HRG.out.1 HRG.out.2 (fun k hk => FT.out.kept k (by omega))]; rfl, FT.out.below⟩
    · have HD := Lib.hid (decide_eq_true hd)
      have HG := Lib.hid (decide_eq_false hg)
      have HF := Lib.hid (PDrift.fault_bad (d := d) (fun h => hg h.2))
      clear hd hg
      go_enter Try.func10, Try.ntmps10
      go_wp2_with fail
      refine (dRate_c w d).mono ?_
      rw [HD.out]
      rintro e w' ⟨rfl, rfl⟩
      go_wp2_with fail
      refine (inOrder_c w _ _ _ _ l R0.out).mono ?_
      rw [HG.out]
      rintro e w1 ⟨rfl, b1⟩
      go_wp2_with fail
      go_ret
      exact ⟨by rw [HF.out]; rfl, b1⟩
  · have HD := Lib.hid (decide_eq_false hd)
    have HF := Lib.hid (PDrift.fault_bad (l := l) (fun h => hd h.1))
    clear hd
    go_enter Try.func10, Try.ntmps10
    go_wp2_with fail
    refine (dRate_c w d).mono ?_
    rw [HD.out]
    rintro e w' ⟨rfl, rfl⟩
    go_wp2_with fail
    go_ret
    exact ⟨by rw [HF.out]; rfl, Below.refl _ _⟩

theorem May_c (w : World) (A : Option Addr) (c n : Nat) (l : List (Int × Int)) (d : Int) (h : Rd w w.heap.size A c 2 n (tcs l)) :
    Calls Try.prog 11 #[.slice A n c, .int .i64 d] w fun e w' => e = .returned (.bool (decide (PDrift.fault l d = -1))) ∧ Below w.heap.size w w' := by
  have R0 := Lib.hid h
  clear h
  by_cases hf : PDrift.fault l d = -1
  · have HF := Lib.hid hf; clear hf
    go_enter Try.func11, Try.ntmps11
    go_wp2_with fail
    refine (Fault_c w _ _ _ l d R0.out).mono ?_
    rw [HF.out]
    rintro e w' ⟨rfl, b1⟩
    go_wp2_with fail
    go_ret
    exact ⟨by rw [HF.out]; rfl, b1⟩
  · have e1 : (PDrift.fault l d == -1) = false := by simpa using hf
    have e2 : decide (PDrift.fault l d = -1) = false := decide_eq_false hf
    have H2 := Lib.hid e2
    clear hf e2
    go_enter Try.func11, Try.ntmps11
    go_wp2_with fail
    refine (Fault_c w _ _ _ l d R0.out).mono ?_
    rintro e w' ⟨rfl, b1⟩
    go_wp2_with fail
    go_ret
    exact ⟨by rw [H2.out]; rfl, b1⟩
end Go.Proofs.Ytdlghnnflmblnaa
