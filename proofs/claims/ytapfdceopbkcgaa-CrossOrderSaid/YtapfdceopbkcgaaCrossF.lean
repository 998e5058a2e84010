/- Contracts of package cross: Most. -/
import Derived.Test.YtapfdceopbkcgaaCrossE
import Derived.BigRegion
namespace Go.Proofs.Ytapfdceopbkcgaa
open Go.RowKit
open PDrift (pr)
open PCross (at_ cnt)

/-- The state of Most: the number's box (block b0), the result's (behind it), the ends' box (g), the two rows. -/
structure Ms (w0 : World) (g : Nat) (w : World) (A1 : Option Addr) (c1 : Nat) (A2 : Option Addr) (c2 m : Nat) (S T : List Int) (k : Int) : Prop where
  n : Blk w w0.heap.size 3 [.int .i64 k]
  res : Blk w (w0.heap.size + 1) 28 [.int .i64 0, .int .i64 0]
  e : Blk w g 47 [.slice A1 m c1, .slice A2 m c2]
  r1 : Rd w g A1 c1 1 m (is S)
  r2 : Rd w g A2 c2 1 m (is T)
  b : Below w0.heap.size w0 w
  lt : w0.heap.size + 1 < g
section
variable {w0 w w' : World} {g : Nat} {A1 : Option Addr} {c1 : Nat} {A2 : Option Addr} {c2 m : Nat} {S T : List Int} {k : Int}
theorem Ms.sz (s : Ms w0 g w A1 c1 A2 c2 m S T k) : g ≤ w.heap.size := Nat.le_of_lt s.e.lt
theorem Ms.past (s : Ms w0 g w A1 c1 A2 c2 m S T k) (hb : Below w.heap.size w w') : Ms w0 g w' A1 c1 A2 c2 m S T k :=
  ⟨s.n.past hb, s.res.past hb, s.e.past hb, s.r1.below (hb.mono s.sz), s.r2.below (hb.mono s.sz), s.b.trans (hb.mono s.b.size), s.lt⟩
end

def MostPost (l : List (Int × Int)) (k : Int) (w : World) (e : Ending) (w' : World) : Prop := ∃ (lo hi : Int) (ok : Bool), e = .returned (.tuple #[rg lo hi, .bool ok]) ∧ Below w.heap.size w w' ∧ PCross.IsMost l k lo hi ok
theorem MostPost.mk {l : List (Int × Int)} {k : Int} {w w' : World} (lo hi : Int) (ok : Bool) (h1 : Below w.heap.size w w') (h2 : PCross.IsMost l k lo hi ok) : MostPost l k w (.returned (.tuple #[rg lo hi, .bool ok])) w' := ⟨lo, hi, ok, rfl, h1, h2⟩

set_option maxHeartbeats 1000000 in
set_option maxRecDepth 100000 in
theorem cMost_c (w : World) (A : Option Addr) (c n : Nat) (l : List (Int × Int)) (h : Rd w w.heap.size A c 2 n (tcs l)) (hn : n ≤ 1000) (k : Int) :
    Calls Try.prog 13 #[.slice A n c, .int .i64 k] w fun e w' => MostPost l k w e w' := by
  have hln := h.plen
  have R0 := h
  have eg : ∀ args w, (callFunc 21 args).run Try.prog w = .ok (.enter 21 args) w := enters_of Try.func21 (by kernel_rfl) rfl
  clear h
  go_enter Try.func13, Try.ntmps13
  go_upto_region 1 with fail
  have b1 := ((Below.refl w.heap.size w).alloc (Nat.le_refl _) (.cells #[.int .i64 k] 3)).alloc (by simp) (.cells #[.int .i64 0, .int .i64 0] 28)
  have K0 := (Blk.new w #[.int .i64 k] 3).alloc (.cells #[.int .i64 0, .int .i64 0] 28)
  have K1 := Blk.new (w.alloc (.cells #[.int .i64 k] 3)) #[.int .i64 0, .int .i64 0] 28
  rw [show (w.alloc (.cells #[.int .i64 k] 3)).heap.size = w.heap.size + 1 by simp] at K1
  have R1 := R0.past b1
  generalize (w.alloc (.cells #[.int .i64 k] 3)).alloc (.cells #[.int .i64 0, .int .i64 0] 28) = w1 at *
  have R1 := Lib.hid R1.tight
  have B1 := Lib.hid b1
  have K0 := Lib.hid K0
  have K1 := Lib.hid K1
  have c0 := K0.out.cell (i := 0) rfl
  clear b1 R0
  by_cases hk : k < 1
  · go_wp2_with ((with_reducible show wpList _ _ _ ((⟨none, Op.store _ (.tmp 4) _, _, _, _, _⟩ : Oper) :: _) _ _); go_must (refine wpList_store_row rfl 28 _ _ rfl (w.heap.size + 1) _ rfl rfl _ _ K1.out (by kernel_rfl) (by rfl) (by kernel_rfl) ?_))
    have hgr := grown_row w1 (w.heap.size + 1) #[.int .i64 0, .int .i64 0]
    have KF := K1.out.row #[.int .i64 0, .int .i64 0]
    have BF := Lib.hid (B1.out.trans (grown_below hgr (Nat.le_succ _) B1.out.size))
    go_wp2_with fail
    exact bodyPost_ret (v := .tuple #[rg 0 0, .bool false]) (results_row_tmp (p := 4) (u := 5) rfl _ _ (w.heap.size + 1) _ _ _ _ rfl rfl KF Try.underlying28 rfl (by kernel_rfl)) rfl (MostPost.mk 0 0 false BF.out (PCross.most_few hk))
  · go_wp2_with fail
    refine (endsOf_c w1 A c n l R1.out hn).mono ?_
    rintro e w2 ⟨A1, c1, A2, c2, m, rfl, hm, b2, S, T, hE, r1, r2⟩
    unfold ev
    have hS : S.length = m := r1.ilen
    have hT : T.length = m := r2.ilen
    have HE := Lib.hid hE
    have K2 := K0.out.past b2
    have K3 := K1.out.past b2
    have KL := Lib.hid K3.lt
    have b3 := (Below.refl w2.heap.size w2).alloc (Nat.le_refl _) (.cells #[.slice A1 m c1, .slice A2 m c2] 47)
    have ST := Lib.hid (show Ms w w2.heap.size (w2.alloc (.cells #[.slice A1 m c1, .slice A2 m c2] 47)) A1 c1 A2 c2 m S T k from
      ⟨K2.past b3, K3.past b3, Blk.new w2 _ _, r1.past b3, r2.past b3, (B1.out.trans (b2.mono B1.out.size)).trans (b3.mono (Nat.le_trans B1.out.size b2.size)), KL.out⟩)
    clear hE b2 B1 K0 K1 R1 r1 r2 K2 K3 KL c0 b3
    go_upto_region 4 with fail
    generalize w2.alloc (.cells #[.slice A1 m c1, .slice A2 m c2] 47) = w3 at *
    generalize w2.heap.size = g at *
    have e0 := ST.out.e.cell (i := 0) rfl
    go_wp2_with fail
    refine (index_c w3 A1 c1 m S (ST.out.r1.more ST.out.sz) (by omega) 21 #[.pointer (some ⟨g, 0, none⟩), .pointer (some ⟨w.heap.size, 0, none⟩)] (fun t => decide (k ≤ (cnt l t : Int))) eg (fun W x h0 hb => ?hG)).mono ?_
    case hG =>
      have s := ST.out.past hb
      exact closeM_c W g w.heap.size g A1 c1 A2 c2 m l S T k x s.e s.n s.r1 s.r2 HE.out h0 (by omega)
    rintro e w4 ⟨⟨i, hi, rfl, hp, hq⟩ | ⟨rfl, hq⟩, b4⟩
    · have S4 := Lib.hid (ST.out.past b4)
      have hp' : k ≤ (cnt l (at_ S i) : Int) := by simpa using hp
      have HP := Lib.hid (show k ≤ (cnt l (at_ S i) : Int) ∧ ∀ q, q < i → (cnt l (at_ S q) : Int) < k from ⟨hp', fun q h => by have := hq q h; simp at this; omega⟩)
      obtain ⟨y, hy1, hy2⟩ := PCross.most_high HE.out (show 1 ≤ k by omega) (show i < S.length by omega) hp'
      have HY := Lib.hid (show ∃ y, y ≤ m - 1 ∧ k ≤ (cnt l (at_ T y) : Int) from ⟨y, by omega, hy2⟩)
      have e1 := S4.out.e.cell (i := 1) rfl
      have hm1 : (m : Int) - 1 = ((m - 1 : Nat) : Int) := by omega
      clear b4 hq hp hp' ST e0 hy1 hy2
      go_wp2_with fail
      go_loopw [9] (fun s9 wr => ∃ j : Nat, j < m ∧ s9 = .int .i64 j ∧ Hid (∃ y, y ≤ j ∧ k ≤ (cnt l (at_ T y) : Int)) ∧ Hid (∀ q, j < q → q < m → (cnt l (at_ T q) : Int) < k) ∧ Hid (Ms w g wr A1 c1 A2 c2 m S T k)) (fun s9 _ => (intOf s9).toNat)
      case atStart => exact ⟨m - 1, by omega, rfl, HY, Lib.hid (fun q h1 h2 => absurd h1 (by omega)), S4⟩
      case round =>
        clear S4 e1 HY hm1
        obtain ⟨j, hj, rfl, HY, HQ, ST⟩ := hrel
        obtain ⟨b, o, x, rfl, cx, -, hx⟩ := ST.out.r2.int hj
        have HX := Lib.hid (show at_ T j = x from hx.symm)
        have e1 := ST.out.e.cell (i := 1) rfl
        clear hx
        by_cases hc : k ≤ (cnt l x : Int)
        · go_wp2_with fail
          refine (closeM_c wr g w.heap.size g A1 c1 _ c2 m l S T k x ST.out.e ST.out.n ST.out.r1 ST.out.r2 HE.out (by omega) (by omega)).mono ?_
          rw [decide_eq_true hc]
          rintro e w5 ⟨rfl, b5⟩
          have S5 := Lib.hid (ST.out.past b5)
          have HM := Lib.hid (PCross.most_some HE.out (show 1 ≤ k by omega) (show i < S.length by omega) HP.out.1 HP.out.2 (show j < T.length by omega) (by rw [HX.out]; exact hc) (fun q h1 h2 => HQ.out q h1 (by omega)))
          obtain ⟨b', o', x', rfl, cx', -, hx'⟩ := S5.out.r1.int hi
          rw [show at_ S i = x' from hx'.symm, HX.out] at HM
          have cx5 := (b5.cell (p := ⟨b, o + j, none⟩) (World.block_lt_of_cell? wr _ cx)).trans cx
          have e0 := S5.out.e.cell (i := 0) rfl
          have e1 := S5.out.e.cell (i := 1) rfl
          have f0 := S5.out.res.cell (i := 0) rfl
          have f1 := S5.out.res.cell (i := 1) rfl
          have z0 := S5.out.res.free 0
          have z1 := S5.out.res.free 1
          have jz : (i : Int) < (m : Int) := by omega
          have jz2 : (j : Int) < (m : Int) := by omega
          clear b5 ST HY HQ hx' HX HP cx hc
          go_wp2_with fail
          go_region
          have KF := (S5.out.res.set 0 (.int .i64 x')).set 1 (.int .i64 x)
          have BF := Lib.hid (((S5.out.b.setCell (show w.heap.size ≤ (⟨w.heap.size + 1, 0, none⟩ : Addr).block by simp) (.int .i64 x')).setCell (show w.heap.size ≤ (⟨w.heap.size + 1, 1, none⟩ : Addr).block by simp) (.int .i64 x)).drew)
          go_wp2_with fail
          exact bodyPost_ret (v := .tuple #[rg x' x, .bool true]) (results_row_tmp (p := 4) (u := 5) rfl _ _ (w.heap.size + 1) _ _ _ _ rfl rfl KF.drew Try.underlying28 rfl (by kernel_rfl)) rfl (MostPost.mk x' x true BF.out HM.out)
        · have hj0 : 0 < j := by
            obtain ⟨y, h1, h2⟩ := HY.out
            rcases Nat.lt_or_ge y j with e | e
            · omega
            · obtain rfl : y = j := by omega
              rw [HX.out] at h2; omega
          have HY' := Lib.hid (show ∃ y, y ≤ j - 1 ∧ k ≤ (cnt l (at_ T y) : Int) from by
            obtain ⟨y, h1, h2⟩ := HY.out
            refine ⟨y, ?_, h2⟩
            rcases Nat.lt_or_ge y j with e | e
            · omega
            · obtain rfl : y = j := by omega
              rw [HX.out] at h2; omega)
          have HQ' := Lib.hid (show ∀ q, j - 1 < q → q < m → (cnt l (at_ T q) : Int) < k from fun q h1 h2 => by
            rcases (by omega : q = j ∨ j < q) with rfl | e
            · rw [HX.out]; omega
            · exact HQ.out q e h2)
          have hm1 : (j : Int) - 1 = ((j - 1 : Nat) : Int) := by omega
          have HD := Lib.hid (decide_eq_false hc)
          go_wp2_with fail
          refine (closeM_c wr g w.heap.size g A1 c1 _ c2 m l S T k x ST.out.e ST.out.n ST.out.r1 ST.out.r2 HE.out (by omega) (by omega)).mono ?_
          rw [HD.out]
          rintro e w5 ⟨rfl, b5⟩
          have S5 := Lib.hid (ST.out.past b5)
          clear b5 ST HY HQ HX cx hc
          go_wp2_with fail
          go_roundw
          case rel => exact ⟨j - 1, by omega, rfl, HY', HQ', S5⟩
          case measure => simp [intOf]; omega
    · have S4 := Lib.hid (ST.out.past b4)
      have HM := Lib.hid (PCross.most_none HE.out (show 1 ≤ k by omega) (fun i hi => by have := hq i (by omega); simp at this; omega))
      clear b4 hq ST e0
      go_wp2_with ((with_reducible show wpList _ _ _ ((⟨none, Op.store _ (.tmp 4) _, _, _, _, _⟩ : Oper) :: _) _ _); go_must (refine wpList_store_row rfl 28 _ _ rfl (w.heap.size + 1) _ rfl rfl _ _ S4.out.res (by kernel_rfl) (by rfl) (by kernel_rfl) ?_))
      have hgr := grown_row w4 (w.heap.size + 1) #[.int .i64 0, .int .i64 0]
      have KF := S4.out.res.row #[.int .i64 0, .int .i64 0]
      have BF := Lib.hid (S4.out.b.trans (grown_below hgr (Nat.le_succ _) S4.out.b.size))
      go_wp2_with fail
      exact bodyPost_ret (v := .tuple #[rg 0 0, .bool false]) (results_row_tmp (p := 4) (u := 5) rfl _ _ (w.heap.size + 1) _ _ _ _ rfl rfl KF Try.underlying28 rfl (by kernel_rfl)) rfl (MostPost.mk 0 0 false BF.out HM.out)
end Go.Proofs.Ytapfdceopbkcgaa
