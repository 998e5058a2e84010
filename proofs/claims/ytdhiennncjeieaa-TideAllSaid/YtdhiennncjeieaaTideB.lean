/- Contracts of the document's own clock. -/
import Derived.Test.YtdhiennncjeieaaTideA
import Derived.BigQuiet
import Derived.Deep.QuietTactic
namespace Go.Proofs.Ytdhiennncjeieaa
open Go.RowKit

/-- The document's own clock: what it shows, its lag. -/
def Rf (w : World) (g : Nat) (now lag : Int) : Prop := Blk w g 28 [.int .i64 now, .int .i64 lag]

theorem Touch.drawn {S : List Nat} {a w : World} (h : Touch S a w) (n : Nat) : Touch S a (w.drewN n) := h.trans ⟨rfl, rfl, rfl, Nat.le_refl _, fun _ _ _ => rfl⟩

theorem rTime_c (w : World) (a : Int) :
    Calls Try.prog 18 #[.int .i64 a] w fun e w' => e = .returned (.bool (PTide.isT a)) ∧ w = w' := by
  have e : PTide.isT a = (decide (-1099511627776 ≤ a) && decide (a ≤ 1099511627776)) := Bool.decide_and ..
  rw [e]; clear e
  by_cases h1 : -1099511627776 ≤ a <;> by_cases h2 : a ≤ 1099511627776
  all_goals
    go_enter Try.func18, Try.ntmps18
    go_wp2_with fail
    go_ret
    exact ⟨by simp [h1, h2], rfl⟩

theorem rGo_c (w : World) (g : Nat) (now lag : Int) (h : Rf w g now lag) (hk : PTide.Ok now lag) (n : Int) :
    Calls Try.prog 12 #[.pointer (some ⟨g, 0, none⟩), .int .i64 n] w fun e w' => e = .returned (.tuple #[]) ∧ Rf w' g (PTide.goN now lag n) (PTide.goL lag n) ∧ Touch [g] w w' := by
  have q0 := Blk.cell h (i := 0) rfl
  have q1 := Blk.cell h (i := 1) rfl
  have f0 := Blk.free h 0
  have f1 := Blk.free h 1
  by_cases h0 : 0 ≤ n
  · by_cases h1 : n ≤ 1048576
    · have hg := (PTide.goes_iff n).2 ⟨h0, h1⟩
      have HG := Lib.hid (PTide.go_in (now := now) (lag := lag) hg)
      have ho := PTide.out_le (n := n) h0 hk.2.2.1
      have e : PTide.out lag n = min lag (n - n / 2) := rfl
      obtain ⟨k1, k2, k3, k4⟩ := hk
      rw [e] at HG ho
      have HC := Lib.hid (Int.min_comm 1099511627776 (now + n - min lag (n - n / 2)))
      clear e hg
      go_enter Try.func12, Try.ntmps12
      go_wp2_with fail
      go_end0
      refine ⟨rfl, ?_, ((Touch.refl _ _).cell (by simp) 1 _).cell (by simp) 0 _⟩
      rw [HG.out.1, HG.out.2, ← HC.out]
      exact (Blk.set h 1 _).set 0 _
    · have HG := Lib.hid (PTide.go_out (now := now) (lag := lag) (show PTide.goes n = false by rw [← Bool.not_eq_true, PTide.goes_iff]; omega))
      go_enter Try.func12, Try.ntmps12
      go_wp2_with fail
      (try simp only [Exit.inBlock, Exit.then]); refine bodyPost_ret (results_none rfl _ _ _) rfl ?_
      exact ⟨rfl, by rw [HG.out.1, HG.out.2]; exact h, Touch.refl _ _⟩
  · have HG := Lib.hid (PTide.go_out (now := now) (lag := lag) (show PTide.goes n = false by rw [← Bool.not_eq_true, PTide.goes_iff]; omega))
    go_enter Try.func12, Try.ntmps12
    go_wp2_with fail
    (try simp only [Exit.inBlock, Exit.then]); refine bodyPost_ret (results_none rfl _ _ _) rfl ?_
    exact ⟨rfl, by rw [HG.out.1, HG.out.2]; exact h, Touch.refl _ _⟩

set_option maxHeartbeats 2000000 in
theorem rRight_c (w : World) (g : Nat) (now lag : Int) (h : Rf w g now lag) (hk : PTide.Ok now lag) (lo hi : Int) :
    Calls Try.prog 14 #[.pointer (some ⟨g, 0, none⟩), .agg #[.int .i64 lo, .int .i64 hi]] w fun e w' => e = .returned (.tuple #[]) ∧ Rf w' g (PTide.riN now lo hi) (PTide.riL now lag lo hi) ∧ Touch [g] w w' := by
  have hne : g ≠ w.heap.size := Nat.ne_of_lt (Blk.lt h)
  have hb1 := (Below.refl w.heap.size w).alloc (Nat.le_refl _) (.cells #[.int .i64 lo, .int .i64 hi] 38)
  have h1 : Rf (w.alloc (.cells #[.int .i64 lo, .int .i64 hi] 38)) g now lag := Blk.past h hb1
  have t1 : Touch [g] w (w.alloc (.cells #[.int .i64 lo, .int .i64 hi] 38)) := .of_below hb1
  have o1 := Blk.new w #[.int .i64 lo, .int .i64 hi] 38
  have K1 := Lib.hid (fun w' => rTime_c w' lo)
  have K2 := Lib.hid (fun w' => rTime_c w' hi)
  by_cases hr : PTide.fits lo hi = true
  · have H1 := Lib.hid (show PTide.riN now lo hi = max now lo by unfold PTide.riN; rw [hr]; rfl)
    have H2 := Lib.hid (show PTide.riL now lag lo hi = max 0 (max now lo - hi) by unfold PTide.riL; rw [hr]; rfl)
    have hr := (PTide.fits_iff lo hi).1 hr
    have HT1 := Lib.hid ((PTide.isT_iff lo).2 hr.2.1)
    have HT2 := Lib.hid ((PTide.isT_iff hi).2 hr.2.2)
    rw [HT1.out] at K1
    rw [HT2.out] at K2
    obtain ⟨r0, ⟨r1, r2⟩, r3, r4⟩ := hr
    obtain ⟨k1, k2, k3, k4⟩ := hk
    have q0 := Blk.cell h1 (i := 0) rfl
    have q1 := Blk.cell h1 (i := 1) rfl
    have f0 := Blk.free h1 0
    have f1 := Blk.free h1 1
    have c0 := Blk.cell o1 (i := 0) rfl
    have c1 := Blk.cell o1 (i := 1) rfl
    rcases (by omega : now < lo ∨ ¬ now < lo ∧ hi < now ∨ ¬ now < lo ∧ ¬ hi < now) with c | ⟨c, d⟩ | ⟨c, d⟩
    · have HM := Lib.hid (show max now lo = lo ∧ max 0 (max now lo - hi) = 0 by omega)
      go_enter Try.func14, Try.ntmps14
      go_wp2_with fail
      generalize w.alloc (.cells #[.int .i64 lo, .int .i64 hi] 38) = w1 at *
      generalize w.heap.size = g1 at *
      refine (K1.out _).mono ?_
      rintro e w2 ⟨rfl, rfl⟩
      go_wp2_with fail
      refine (K2.out _).mono ?_
      rintro e w2 ⟨rfl, rfl⟩
      go_wp2_with fail
      go_quiet (fail)
      go_wp2_with fail
      go_end0
      refine ⟨rfl, ?_, ((t1.drawn _).cell (by simp) 0 _).cell (by simp) 1 _⟩
      rw [H1.out, H2.out, HM.out.2, HM.out.1]
      exact (Blk.set (w := w1.drewN _) h1 0 _).set 1 _
    · have HM := Lib.hid (show max now lo = now ∧ max 0 (max now lo - hi) = now - hi by omega)
      go_enter Try.func14, Try.ntmps14
      go_wp2_with fail
      generalize w.alloc (.cells #[.int .i64 lo, .int .i64 hi] 38) = w1 at *
      generalize w.heap.size = g1 at *
      refine (K1.out _).mono ?_
      rintro e w2 ⟨rfl, rfl⟩
      go_wp2_with fail
      refine (K2.out _).mono ?_
      rintro e w2 ⟨rfl, rfl⟩
      go_wp2_with fail
      go_quiet (fail)
      go_wp2_with fail
      go_quiet (fail)
      go_wp2_with fail
      go_big_region
      all_goals go_wp2_with fail
      go_end0
      refine ⟨rfl, ?_, (t1.drawn _).cell (by simp) 1 _⟩
      rw [H1.out, H2.out, HM.out.2, HM.out.1]
      exact Blk.set (w := w1.drewN _) h1 1 _
    · have HM := Lib.hid (show max now lo = now ∧ max 0 (max now lo - hi) = 0 by omega)
      go_enter Try.func14, Try.ntmps14
      go_wp2_with fail
      generalize w.alloc (.cells #[.int .i64 lo, .int .i64 hi] 38) = w1 at *
      generalize w.heap.size = g1 at *
      refine (K1.out _).mono ?_
      rintro e w2 ⟨rfl, rfl⟩
      go_wp2_with fail
      refine (K2.out _).mono ?_
      rintro e w2 ⟨rfl, rfl⟩
      go_wp2_with fail
      go_quiet (fail)
      go_wp2_with fail
      go_quiet (fail)
      go_wp2_with fail
      go_end0
      refine ⟨rfl, ?_, (t1.drawn _).cell (by simp) 1 _⟩
      rw [H1.out, H2.out, HM.out.2, HM.out.1]
      exact Blk.set (w := w1.drewN _) h1 1 _
  · have H1 := Lib.hid (show PTide.riN now lo hi = now by unfold PTide.riN; rw [if_neg hr])
    have H2 := Lib.hid (show PTide.riL now lag lo hi = lag by unfold PTide.riL; rw [if_neg hr])
    have HF := Lib.hid (show PTide.fits lo hi = (decide (lo ≤ hi) && (PTide.isT lo && PTide.isT hi)) from rfl)
    rw [Bool.not_eq_true] at hr
    rw [hr] at HF
    clear hr
    by_cases c : lo ≤ hi
    · rw [decide_eq_true c] at HF
      generalize PTide.isT lo = x at *
      generalize PTide.isT hi = y at *
      cases x
      · go_enter Try.func14, Try.ntmps14
        go_wp2_with fail
        refine (K1.out _).mono ?_
        rintro e w2 ⟨rfl, rfl⟩
        go_wp2_with fail
        (try simp only [Exit.inBlock, Exit.then]); refine bodyPost_ret (results_none rfl _ _ _) rfl ?_
        exact ⟨rfl, by rw [H1.out, H2.out]; exact h1, t1⟩
      · cases y
        · go_enter Try.func14, Try.ntmps14
          go_wp2_with fail
          refine (K1.out _).mono ?_
          rintro e w2 ⟨rfl, rfl⟩
          go_wp2_with fail
          refine (K2.out _).mono ?_
          rintro e w2 ⟨rfl, rfl⟩
          go_wp2_with fail
          (try simp only [Exit.inBlock, Exit.then]); refine bodyPost_ret (results_none rfl _ _ _) rfl ?_
          exact ⟨rfl, by rw [H1.out, H2.out]; exact h1, t1⟩
        · exact absurd HF.out (by decide)
    · go_enter Try.func14, Try.ntmps14
      go_wp2_with fail
      (try simp only [Exit.inBlock, Exit.then]); refine bodyPost_ret (results_none rfl _ _ _) rfl ?_
      exact ⟨rfl, by rw [H1.out, H2.out]; exact h1, t1⟩
end Go.Proofs.Ytdhiennncjeieaa
