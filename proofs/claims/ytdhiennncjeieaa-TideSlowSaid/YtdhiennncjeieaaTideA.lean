/- Contracts of package tide. -/
import Derived.Test.YtdhiennncjeieaaSpanE
import Derived.Test.YtdhiennncjeieaaPlainTide
import Derived.Test.YtdhiennncjeieaaTouch
import Derived.Lib.MinMax
import Derived.BigRegion
namespace Go.Proofs.Ytdhiennncjeieaa
open Go.RowKit

/-- A clock: what it shows, its lag. -/
def Td (w : World) (g : Nat) (now lag : Int) : Prop := Blk w g 44 [.int .i64 now, .int .i64 lag]

theorem tIs_c (w : World) (a : Int) :
    Calls Try.prog 16 #[.int .i64 a] w fun e w' => e = .returned (.bool (PTide.isT a)) ∧ w = w' := by
  have H := Lib.hid (show (PSpan.add a 0).2 = PTide.isT a by
    unfold PSpan.add PTide.isT
    by_cases h : -1099511627776 ≤ a ∧ a ≤ 1099511627776
    · rw [if_pos ⟨h, by omega⟩, Int.add_zero, PSpan.ans_in h.1 h.2, decide_eq_true h]
    · rw [if_neg (fun x => h x.1), decide_eq_false h])
  go_enter Try.func16, Try.ntmps16
  go_wp2_with fail
  refine (add_c w a 0).mono ?_
  rw [H.out]
  rintro e w' ⟨rfl, rfl⟩
  go_wp2_with fail
  go_ret
  exact ⟨rfl, rfl⟩

theorem new_c (w : World) (a : Int) :
    Calls Try.prog 9 #[.int .i64 a] w fun e w' => e = .returned (.pointer (some ⟨w.heap.size, 0, none⟩)) ∧ Td w' w.heap.size (PTide.newN a) 0 ∧ Below w.heap.size w w' := by
  by_cases h0 : 0 ≤ a
  · have H := Lib.hid (show PTide.isT a = true ↔ a ≤ 1099511627776 by rw [PTide.isT_iff]; omega)
    cases ht : PTide.isT a
    · have HN := Lib.hid (PTide.new_out (a := a) (fun x => by have := H.out.2 x.2; rw [ht] at this; cases this))
      have HT := Lib.hid ht
      clear ht H
      go_enter Try.func9, Try.ntmps9
      go_wp2_with fail
      refine (tIs_c w a).mono ?_
      rw [HT.out]
      rintro e w' ⟨rfl, rfl⟩
      go_wp2_with fail
      go_ret
      exact ⟨rfl, by rw [HN.out]; exact Blk.new w #[.int .i64 0, .int .i64 0] _, (Below.refl _ _).alloc (Nat.le_refl _) _⟩
    · have HN := Lib.hid (PTide.new_in (a := a) ⟨h0, H.out.1 ht⟩)
      have HT := Lib.hid ht
      clear ht H
      go_enter Try.func9, Try.ntmps9
      go_wp2_with fail
      refine (tIs_c w a).mono ?_
      rw [HT.out]
      rintro e w' ⟨rfl, rfl⟩
      go_wp2_with fail
      go_ret
      exact ⟨rfl, by rw [HN.out]; exact Blk.new w #[.int .i64 a, .int .i64 0] _, (Below.refl _ _).alloc (Nat.le_refl _) _⟩
  · have HN := Lib.hid (PTide.new_out (a := a) (fun x => h0 x.1))
    go_enter Try.func9, Try.ntmps9
    go_wp2_with fail
    go_ret
    exact ⟨rfl, by rw [HN.out]; exact Blk.new w #[.int .i64 0, .int .i64 0] _, (Below.refl _ _).alloc (Nat.le_refl _) _⟩

theorem now_nil (w : World) : Calls Try.prog 10 #[.pointer none] w fun e w' => e = .returned (.int .i64 0) ∧ w = w' := by
  go_enter Try.func10, Try.ntmps10
  go_wp2_with fail
  go_ret
  exact ⟨rfl, rfl⟩
theorem lag_nil (w : World) : Calls Try.prog 15 #[.pointer none] w fun e w' => e = .returned (.int .i64 0) ∧ w = w' := by
  go_enter Try.func15, Try.ntmps15
  go_wp2_with fail
  go_ret
  exact ⟨rfl, rfl⟩
theorem now_c (w : World) (g : Nat) (now lag : Int) (h : Td w g now lag) : Calls Try.prog 10 #[.pointer (some ⟨g, 0, none⟩)] w fun e w' => e = .returned (.int .i64 now) ∧ w = w' := by
  have q0 := Blk.cell h (i := 0) rfl
  go_enter Try.func10, Try.ntmps10
  go_wp2_with fail
  go_ret
  exact ⟨rfl, rfl⟩
theorem lag_c (w : World) (g : Nat) (now lag : Int) (h : Td w g now lag) : Calls Try.prog 15 #[.pointer (some ⟨g, 0, none⟩)] w fun e w' => e = .returned (.int .i64 lag) ∧ w = w' := by
  have q1 := Blk.cell h (i := 1) rfl
  go_enter Try.func15, Try.ntmps15
  go_wp2_with fail
  go_ret
  exact ⟨rfl, rfl⟩
theorem go_nil (w : World) (n : Int) : Calls Try.prog 11 #[.pointer none, .int .i64 n] w fun e w' => e = .returned (.int .i64 0) ∧ w = w' := by
  go_enter Try.func11, Try.ntmps11
  go_wp2_with fail
  go_ret
  exact ⟨rfl, rfl⟩
theorem right_nil (w : World) (lo hi : Int) : Calls Try.prog 13 #[.pointer none, .agg #[.int .i64 lo, .int .i64 hi]] w fun e w' => e = .returned (.int .i64 0) ∧ Below w.heap.size w w' := by
  go_enter Try.func13, Try.ntmps13
  go_wp2_with fail
  go_ret
  exact ⟨rfl, (Below.refl _ _).alloc (Nat.le_refl _) _⟩

theorem go_c (w : World) (g : Nat) (now lag : Int) (h : Td w g now lag) (hk : PTide.Ok now lag) (n : Int) :
    Calls Try.prog 11 #[.pointer (some ⟨g, 0, none⟩), .int .i64 n] w fun e w' => e = .returned (.int .i64 (PTide.goN now lag n)) ∧ Td w' g (PTide.goN now lag n) (PTide.goL lag n) ∧ Touch [g] w w' := by
  have q0 := Blk.cell h (i := 0) rfl
  have q1 := Blk.cell h (i := 1) rfl
  have f0 := Blk.free h 0
  have f1 := Blk.free h 1
  by_cases h0 : 0 ≤ n
  · by_cases h1 : n ≤ 1048576
    · have hg := (PTide.goes_iff n).2 ⟨h0, h1⟩
      have HG := Lib.hid (PTide.go_in (now := now) (lag := lag) hg)
      have ho := PTide.out_le (n := n) h0 hk.2.2.1
      have e : PTide.out lag n = min lag (n - n / 2) := rfl
      obtain ⟨k1, k2, k3, k4⟩ := hk
      rw [e] at HG ho
      clear e hg
      go_enter Try.func11, Try.ntmps11
      go_wp2_with fail
      go_ret
      refine ⟨by rw [HG.out.1]; rfl, ?_, ((Touch.refl _ _).cell (by simp) 1 _).cell (by simp) 0 _⟩
      rw [HG.out.1, HG.out.2]
      exact (Blk.set h 1 _).set 0 _
    · have HG := Lib.hid (PTide.go_out (now := now) (lag := lag) (show PTide.goes n = false by rw [← Bool.not_eq_true, PTide.goes_iff]; omega))
      go_enter Try.func11, Try.ntmps11
      go_wp2_with fail
      go_ret
      exact ⟨by rw [HG.out.1]; rfl, by rw [HG.out.1, HG.out.2]; exact h, Touch.refl _ _⟩
  · have HG := Lib.hid (PTide.go_out (now := now) (lag := lag) (show PTide.goes n = false by rw [← Bool.not_eq_true, PTide.goes_iff]; omega))
    go_enter Try.func11, Try.ntmps11
    go_wp2_with fail
    go_ret
    exact ⟨by rw [HG.out.1]; rfl, by rw [HG.out.1, HG.out.2]; exact h, Touch.refl _ _⟩

theorem has_c (w : World) (lo hi : Int) :
    Calls Try.prog 17 #[.agg #[.int .i64 lo, .int .i64 hi]] w fun e w' => e = .returned (.bool (PTide.fits lo hi)) ∧ Below w.heap.size w w' := by
  have H := Lib.hid (show PTide.fits lo hi = (decide (lo ≤ hi) && (PTide.isT lo && PTide.isT hi)) from rfl)
  by_cases h0 : lo ≤ hi
  · rw [decide_eq_true h0] at H
    have K1 := Lib.hid (fun w' => tIs_c w' lo)
    have K2 := Lib.hid (fun w' => tIs_c w' hi)
    generalize PTide.isT lo = x at *
    generalize PTide.isT hi = y at *
    cases x
    · go_enter Try.func17, Try.ntmps17
      go_wp2_with fail
      refine (K1.out _).mono ?_
      rintro e w' ⟨rfl, rfl⟩
      go_wp2_with fail
      go_ret
      exact ⟨by rw [H.out]; rfl, (Below.refl _ _).alloc (Nat.le_refl _) _⟩
    · go_enter Try.func17, Try.ntmps17
      go_wp2_with fail
      refine (K1.out _).mono ?_
      rintro e w' ⟨rfl, rfl⟩
      go_wp2_with fail
      refine (K2.out _).mono ?_
      rintro e w' ⟨rfl, rfl⟩
      go_wp2_with fail
      go_ret
      exact ⟨by rw [H.out]; rfl, (Below.refl _ _).alloc (Nat.le_refl _) _⟩
  · rw [decide_eq_false h0] at H
    go_enter Try.func17, Try.ntmps17
    go_wp2_with fail
    go_ret
    exact ⟨by rw [H.out]; rfl, (Below.refl _ _).alloc (Nat.le_refl _) _⟩

set_option maxHeartbeats 1000000 in
theorem right_c (w : World) (g : Nat) (now lag : Int) (h : Td w g now lag) (hk : PTide.Ok now lag) (lo hi : Int) :
    Calls Try.prog 13 #[.pointer (some ⟨g, 0, none⟩), .agg #[.int .i64 lo, .int .i64 hi]] w fun e w' => e = .returned (.int .i64 (PTide.riN now lo hi)) ∧ Td w' g (PTide.riN now lo hi) (PTide.riL now lag lo hi) ∧ Touch [g] w w' := by
  have hne : g ≠ w.heap.size := Nat.ne_of_lt (Blk.lt h)
  have hb1 := (Below.refl w.heap.size w).alloc (Nat.le_refl _) (.cells #[.int .i64 lo, .int .i64 hi] 36)
  have h1 : Td (w.alloc (.cells #[.int .i64 lo, .int .i64 hi] 36)) g now lag := Blk.past h hb1
  have t1 : Touch [g] w (w.alloc (.cells #[.int .i64 lo, .int .i64 hi] 36)) := .of_below hb1
  have o1 := Blk.new w #[.int .i64 lo, .int .i64 hi] 36
  cases hf : PTide.fits lo hi
  · have H1 := Lib.hid (show PTide.riN now lo hi = now by unfold PTide.riN; rw [hf]; rfl)
    have H2 := Lib.hid (show PTide.riL now lag lo hi = lag by unfold PTide.riL; rw [hf]; rfl)
    have HF := Lib.hid hf
    clear hf
    go_enter Try.func13, Try.ntmps13
    go_wp2_with fail
    generalize w.alloc (.cells #[.int .i64 lo, .int .i64 hi] 36) = w1 at *
    refine (has_c w1 lo hi).mono ?_
    rw [HF.out]
    rintro e w2 ⟨rfl, b2⟩
    have h2 : Td w2 g now lag := Blk.past h1 b2
    have q0 := Blk.cell h2 (i := 0) rfl
    go_wp2_with fail
    go_ret
    exact ⟨by rw [H1.out]; rfl, by rw [H1.out, H2.out]; exact h2, t1.trans (.of_below b2)⟩
  · have H1 := Lib.hid (show PTide.riN now lo hi = max now lo by unfold PTide.riN; rw [hf]; rfl)
    have H2 := Lib.hid (show PTide.riL now lag lo hi = max 0 (max now lo - hi) by unfold PTide.riL; rw [hf]; rfl)
    have HF := Lib.hid hf
    have hr := (PTide.fits_iff lo hi).1 hf
    clear hf
    obtain ⟨r0, ⟨r1, r2⟩, r3, r4⟩ := hr
    obtain ⟨k1, k2, k3, k4⟩ := hk
    have hm : 0 ≤ max now lo ∧ max now lo ≤ 1099511627776 := by omega
    obtain ⟨m1, m2⟩ := hm
    go_enter Try.func13, Try.ntmps13
    go_wp2_with fail
    generalize w.alloc (.cells #[.int .i64 lo, .int .i64 hi] 36) = w1 at *
    generalize w.heap.size = g1 at *
    refine (has_c w1 lo hi).mono ?_
    rw [HF.out]
    rintro e w2 ⟨rfl, b2⟩
    have h2 : Td w2 g now lag := Blk.past h1 b2
    have o2 := Blk.past o1 b2
    have q0 := Blk.cell h2 (i := 0) rfl
    have q1 := Blk.cell h2 (i := 1) rfl
    have f0 := Blk.free h2 0
    have f1 := Blk.free h2 1
    have c0 := Blk.cell o2 (i := 0) rfl
    have c1 := Blk.cell o2 (i := 1) rfl
    go_wp2_with fail
    go_big_region
    have h3 : Blk (w2.setCell ⟨g, 0, none⟩ (.int .i64 (max now lo))).drew g 44 [.int .i64 (max now lo), .int .i64 lag] := Blk.set h2 0 (.int .i64 (max now lo))
    have o3 : Blk (w2.setCell ⟨g, 0, none⟩ (.int .i64 (max now lo))).drew g1 36 _ := Blk.touch o2 (((Touch.refl [g] _).cell (by simp) 0 _).drew) (by simp; exact fun x => hne x.symm)
    have t3 : Touch [g] w (w2.setCell ⟨g, 0, none⟩ (.int .i64 (max now lo))).drew := ((t1.trans (.of_below b2)).cell (by simp) 0 _).drew
    clear q0 q1 f0 f1 c0 c1 h2 o2 h1 o1 hb1 b2
    generalize (w2.setCell ⟨g, 0, none⟩ (.int .i64 (max now lo))).drew = w3 at *
    have q0 := Blk.cell h3 (i := 0) rfl
    have q1 := Blk.cell h3 (i := 1) rfl
    have f1 := Blk.free h3 1
    have c1 := Blk.cell o3 (i := 1) rfl
    go_wp2_with fail
    go_big_region
    go_wp2_with fail
    go_ret
    refine ⟨by rw [H1.out]; rfl, ?_, (t3.cell (by simp) 1 _).drew⟩
    rw [H1.out, H2.out]
    exact Blk.set h3 1 _
end Go.Proofs.Ytdhiennncjeieaa
