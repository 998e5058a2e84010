/- The walk of ClientNoView. -/
import Derived.Test.YtacipjdaiglnjaaGreatDoorSeg26
namespace Go.Proofs.YtacipjdaiglnjaaGreatDoor
open Go.RowKit PNode

theorem idl_out (k : Int) : inV (idl 1 3 k) = false := rfl
theorem idl_stv (k : Int) : stv (idl 1 3 k) = .agg #[.bool true, .bool false, .bool false, .int .i64 0, .int .i64 0, .int .i64 0, .int .i64 0, .int .i64 0] := rfl
theorem idl_getO (k : Int) (nm : ByteArray) : getO (idl 1 3 k) nm = (⟨#[]⟩, 6) := by
  unfold getO; rw [idl_out]; rfl
theorem idl_cast {k o v er : Int} {dt : ByteArray} {p' : Np} (h : castC (idl 1 3 k) o v dt er p') : er = 6 ∧ p' = idl 1 3 k := by
  rcases h with ⟨h1, -, h2⟩ | ⟨h, -⟩
  · exact ⟨h1, h2⟩
  · rw [idl_out] at h; cases h

set_option maxHeartbeats 16000000 in
set_option maxRecDepth 100000 in
theorem ClientNoView_good (w : World) (ht : Tab w) (M N : Nat) (hM : M ≤ 9) (hN : N ≤ 9) :
    Calls Tryz.prog 5 #[.int .i64 (M : Int), .int .i64 (N : Int)] w fun e w' => e = .returned (.bool true) ∧ Below w.heap.size w w' := by
  have HT := Lib.hid ht
  clear ht
  go_enter Tryz.func5, Tryz.ntmps5
  go_wp2_with fail
  refine (bgn_c w HT.out).mono ?_
  rintro e w1 ⟨rfl, b1⟩
  have b2 := Lib.hid (b1.alloc b1.size (.cells #[.int .i64 0, .int .i64 0] 62))
  have D2 : Hid (Ds (w1.alloc (.cells #[.int .i64 0, .int .i64 0] 62)) w1.heap.size 0 0) := Lib.hid (Blk.new w1 _ _)
  have hd1 := Lib.hid (show w.heap.size ≤ w1.heap.size from b1.size)
  clear b1
  go_wp2_with fail
  refine (Sn.make (w0 := w) b2.out (id := 1) (n := 3) (b := 0) D2.out hd1.out (by omega) (by omega) (by omega) (by omega) (by omega) (by omega) (by omega) (by omega)).mono ?_
  rintro e w4 ⟨x, rfl, n4, -⟩
  have N4 := Lib.hid (show Sn w w4 x w1.heap.size (idl 1 3 0) from n4)
  obtain ⟨d, hd⟩ : ∃ d, w1.heap.size = d := ⟨_, rfl⟩
  rw [hd] at N4
  clear n4 hd hd1 D2 b2
  go_wp2_with fail
  refine (clNew_c w4 _).mono ?_
  rintro e w5 ⟨rfl, k5, b5⟩
  obtain ⟨g, hg⟩ : ∃ g, w4.heap.size = g := ⟨_, rfl⟩
  have H5 := Lib.hid (show La w w5 x d g [] (idl 1 3 ((0 : Nat) : Int)) 0 0 by
    have N5 := N4.out.past b5
    obtain ⟨F, f1, f2⟩ := N5.ex
    rw [hg] at k5
    exact ⟨⟨F, f1, f2, by simp⟩, k5, by rw [← hg]; exact N4.out.bel.size, by simp, by simp, N5.bel⟩)
  rw [hg]
  clear k5 b5 hg N4
  go_wp2_with fail
  go_loopw [9] (fun s wr => ∃ k : Nat, s = .int .i64 (k : Int) ∧ k ≤ M ∧ Hid (La w wr x d g [] (idl 1 3 (k : Int)) 0 0)) (fun s _ => (M - intOf s).toNat)
  case atStart => exact ⟨0, rfl, Nat.zero_le _, H5⟩
  case round =>
    obtain ⟨k, rfl, hk, H6⟩ := hrel
    clear H5
    by_cases hlt : k < M
    · go_wp2_with fail
      refine (H6.out.post (C := cNone (idl 1 3 ((k + 1 : Nat) : Int))) (fun F hF => tick_of hF (by show (k : Int) < _; omega) _ (fun Q p' hh => by rw [hh.2]; exact ⟨rfl, rfl⟩) (fun w1 F1 h1 => act_none (p := idl 1 3 ((k + 1 : Nat) : Int)) h1 rfl rfl rfl rfl (by rw [idl_late]; simp; omega)))).mono ?_
      rintro e w7 ⟨Q, p', A, c, ⟨rfl, rfl⟩, rfl, -, h7, -⟩
      have H7 := Lib.hid h7
      clear h7 H6
      go_wp2_with fail
      go_roundw
      case rel => exact ⟨k + 1, by go_num, by omega, H7⟩
      case measure => simp [intOf]; omega
    · obtain rfl : k = M := by omega
      go_wp2_with fail
      have H6z := Lib.hid (show La w wr x d g [] (idl 1 3 (k : Int)) 0 ((0 : Nat) : Int) from H6.out)
      go_loopw [10] (fun s wr => ∃ j : Nat, s = .int .i64 (j : Int) ∧ j ≤ N ∧ Hid (La w wr x d g [] (idl 1 3 (k : Int)) 0 (j : Int))) (fun s _ => (N - intOf s).toNat)
      case atStart => exact ⟨0, rfl, Nat.zero_le _, H6z⟩
      case round =>
        obtain ⟨j, rfl, hj, H8⟩ := hrel
        clear H6 H6z
        by_cases hlt2 : j < N
        · go_wp2_with fail
          refine (H8.out.cast 0 0 ⟨#[120]⟩ (by omega) (by omega)).mono ?_
          rintro e w9 ⟨er, p', q9, rfl, h9, -⟩
          obtain ⟨rfl, rfl⟩ := idl_cast q9
          have H9 := Lib.hid (show La w w9 x d g [] (idl 1 3 (k : Int)) 0 ((j + 1 : Nat) : Int) from h9)
          clear q9 h9 H8
          go_wp2_with fail
          go_roundw
          case rel => exact ⟨j + 1, by go_num, by omega, H9⟩
          case measure => simp [intOf]; omega
        · obtain rfl : j = N := by omega
          go_wp2_with fail
          refine (H8.out.get (by show (0 : Nat) ≤ _; omega) ⟨#[97]⟩ (by decide)).mono ?_
          rw [idl_getO]
          rintro e w9 ⟨rfl, b9⟩
          have H9 := Lib.hid (H8.out.past b9)
          clear b9 H8
          go_wp2_with fail
          refine H9.out.status.mono ?_
          rw [idl_stv]
          rintro e w10 ⟨rfl, b10⟩
          have H10 := Lib.hid (H9.out.past b10)
          clear b10 H9
          have H11 := Lib.hid (H10.out.alloc (.cells #[.bool true, .bool false, .bool false, .int .i64 0, .int .i64 0, .int .i64 0, .int .i64 0, .int .i64 0] 41))
          have S11 := Blk.new w10 #[.bool true, .bool false, .bool false, .int .i64 0, .int .i64 0, .int .i64 0, .int .i64 0, .int .i64 0] 41
          have d0 := S11.cell (i := 0) rfl
          have d1 := S11.cell (i := 1) rfl
          have d2 := S11.cell (i := 2) rfl
          have d3 := S11.cell (i := 3) rfl
          have d4 := S11.cell (i := 4) rfl
          have d7 := S11.cell (i := 7) rfl
          clear S11 H10
          go_wp2_with fail
          generalize (w10.alloc (.cells #[.bool true, .bool false, .bool false, .int .i64 0, .int .i64 0, .int .i64 0, .int .i64 0, .int .i64 0] 41)) = w11 at *
          refine (clLost_c H11.out.cl).mono ?_
          rintro e w' ⟨rfl, rfl⟩
          go_wp2_with fail
          refine (H11.out.poll ⟨Int.le_refl _, by show (0 : Int) ≤ ((0 : Nat) : Int); omega⟩ (by show (0 : Nat) ≤ _; omega)).mono ?_
          rw [show ((idl 1 3 (k : Int)).T.drop (0 : Int).toNat).length = 0 from rfl]
          rintro e w12 ⟨A12, c12, rfl, -, h12, -, -⟩
          have B12 := Lib.hid h12.bel
          clear h12 H11 d0 d1 d2 d3 d4 d7
          go_wp2_with fail
          go_ret
          exact ⟨rfl, B12.out⟩

set_option maxHeartbeats 4000000 in
set_option maxRecDepth 100000 in
theorem ClientNoView_bad (w : World) (ht : Tab w) (a b : Int) (h : a < 0 ∨ 9 < a ∨ b < 0 ∨ 9 < b) :
    Calls Tryz.prog 5 #[.int .i64 a, .int .i64 b] w fun e w' => e = .returned (.bool true) ∧ Below w.heap.size w w' := by
  have HT := Lib.hid ht
  clear ht
  have h' : a < 0 ∨ (0 ≤ a ∧ (9 < a ∨ (a ≤ 9 ∧ (b < 0 ∨ (0 ≤ b ∧ 9 < b))))) := by omega
  clear h
  rcases h' with c | ⟨c1, c | ⟨c2, c | ⟨c3, c⟩⟩⟩
  all_goals
    go_enter Tryz.func5, Tryz.ntmps5
    go_wp2_with fail
    refine (bgn_c w HT.out).mono ?_
    rintro e w1 ⟨rfl, b1⟩
    have B1 := Lib.hid b1
    clear b1
    go_wp2_with fail
    go_ret
    exact ⟨rfl, B1.out⟩
theorem ClientNoView_w (w : World) (ht : Tab w) (a b : Int) :
    Calls Tryz.prog 5 #[.int .i64 a, .int .i64 b] w fun e w' => e = .returned (.bool true) ∧ Below w.heap.size w w' := by
  by_cases h : a < 0 ∨ 9 < a ∨ b < 0 ∨ 9 < b
  · exact ClientNoView_bad w ht a b h
  · obtain ⟨M, rfl⟩ : ∃ M : Nat, a = (M : Int) := ⟨a.toNat, by omega⟩
    obtain ⟨N, rfl⟩ : ∃ N : Nat, b = (N : Int) := ⟨b.toNat, by omega⟩
    exact ClientNoView_good w ht M N (by omega) (by omega)
end Go.Proofs.YtacipjdaiglnjaaGreatDoor

