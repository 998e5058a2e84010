/- Package join: New; what is answered of nil; isAnswer, isOfDecider, isWhole. -/
import Derived.Test.YtnpobagipgephaaJoin
import Derived.Test.YtnpobagipgephaaTeamE
import Derived.Test.YtnpobagipgephaaTeamF
import Derived.Test.YtnpobagipgephaaLogN
import Derived.BigQuiet
import Derived.Deep.QuietTactic
namespace Go.Proofs.Ytnpobagipgephaa
open Go.RowKit PJoin

theorem may_zero (n : Int) : PTeam.may 0 n = decide (3 ≤ n ∧ n ≤ 7) := by
  unfold PTeam.may
  rw [Bool.eq_iff_iff]
  simp only [Bool.and_eq_true, decide_eq_true_eq]
  constructor
  · exact fun h => h.1
  · intro h
    refine ⟨h, Int.le_refl _, ?_⟩
    exact Int.pow_pos (by decide)

set_option maxRecDepth 100000 in
theorem jnew_yes (w : World) (me n boot pro : Int) (h1 : 3 ≤ n) (h2 : n ≤ 7) (h3 : 1 ≤ me) (h4 : me ≤ n) (h5 : 1 ≤ boot) (h6 : boot ≤ 1099511627776) (h7 : 0 ≤ pro) (h8 : pro ≤ 1099511627776) :
    Calls Try.prog 7 #[.int .i64 me, .int .i64 n, .int .i64 boot, .int .i64 pro] w fun e w' => e = .returned (.pointer (some ⟨w.heap.size, 0, none⟩)) ∧ Jn w' w.heap.size [w.heap.size] me n boot pro none ∧ Below w.heap.size w w' := by
  have hm := may_zero n
  rw [decide_eq_true (show 3 ≤ n ∧ n ≤ 7 from ⟨h1, h2⟩)] at hm
  go_enter Try.func7, Try.ntmps7
  go_wp2_with fail
  refine (tOf_c w w.heap.size none 0 0 [] (Rd.nil _ _ _)).mono ?_
  rintro e w' ⟨rfl, rfl⟩
  go_wp2_with fail
  refine (tMay_c w 0 n (by decide) (by decide)).mono ?_
  rintro e w' ⟨rfl, rfl⟩
  go_wp2_with fail
  go_ret
  exact ⟨rfl, ⟨⟨none, 0, Blk.new w _ _, Ow.nil _ _ _ _, rfl⟩, by decide⟩, (Below.refl _ _).alloc (Nat.le_refl _) _⟩
set_option maxRecDepth 100000 in
theorem jnew_no (w : World) (me n boot pro : Int) (h : ¬ ((3 ≤ n ∧ n ≤ 7) ∧ 1 ≤ me ∧ me ≤ n ∧ 1 ≤ boot ∧ boot ≤ 1099511627776 ∧ 0 ≤ pro ∧ pro ≤ 1099511627776)) :
    Calls Try.prog 7 #[.int .i64 me, .int .i64 n, .int .i64 boot, .int .i64 pro] w fun e w' => e = .returned (.pointer none) ∧ w = w' := by
  have hm := may_zero n
  by_cases hn : 3 ≤ n ∧ n ≤ 7
  · rw [decide_eq_true hn] at hm
    rcases (by omega : me < 1 ∨ (1 ≤ me ∧ n < me) ∨ (1 ≤ me ∧ me ≤ n ∧ boot < 1) ∨ (1 ≤ me ∧ me ≤ n ∧ 1 ≤ boot ∧ 1099511627776 < boot) ∨ (1 ≤ me ∧ me ≤ n ∧ 1 ≤ boot ∧ boot ≤ 1099511627776 ∧ pro < 0) ∨ (1 ≤ me ∧ me ≤ n ∧ 1 ≤ boot ∧ boot ≤ 1099511627776 ∧ 0 ≤ pro ∧ 1099511627776 < pro)) with k | ⟨k, k2⟩ | ⟨k, k2, k3⟩ | ⟨k, k2, k3, k4⟩ | ⟨k, k2, k3, k4, k5⟩ | ⟨k, k2, k3, k4, k5, k6⟩
    all_goals
      clear h hn
      go_enter Try.func7, Try.ntmps7
      go_wp2_with fail
      refine (tOf_c w w.heap.size none 0 0 [] (Rd.nil _ _ _)).mono ?_
      rintro e w' ⟨rfl, rfl⟩
      go_wp2_with fail
      refine (tMay_c w 0 n (by decide) (by decide)).mono ?_
      rintro e w' ⟨rfl, rfl⟩
      go_wp2_with fail
      go_ret
      exact ⟨rfl, rfl⟩
  · rw [decide_eq_false hn] at hm
    clear h hn
    go_enter Try.func7, Try.ntmps7
    go_wp2_with fail
    refine (tOf_c w w.heap.size none 0 0 [] (Rd.nil _ _ _)).mono ?_
    rintro e w' ⟨rfl, rfl⟩
    go_wp2_with fail
    refine (tMay_c w 0 n (by decide) (by decide)).mono ?_
    rintro e w' ⟨rfl, rfl⟩
    go_wp2_with fail
    go_ret
    exact ⟨rfl, rfl⟩

/-! Of nil. -/
theorem jask_nil (w : World) : Calls Try.prog 8 #[.pointer none] w fun e w' => e = .returned (.slice none 0 0) ∧ w = w' := by
  go_enter Try.func8, Try.ntmps8
  go_wp2_with fail
  go_ret
  exact ⟨rfl, rfl⟩
set_option maxRecDepth 100000 in
theorem jhear_nil (w : World) (m : Msg) (A : Option Addr) (c : Nat) : Calls Try.prog 11 #[.pointer none, mv m A c] w fun e w' => e = .returned (.bool false) ∧ Below w.heap.size w w' := by
  have b0 := (Below.refl w.heap.size w).alloc (Nat.le_refl _) (.cells #[.int .i64 m.kind, .int .i64 m.fr, .int .i64 m.dst, .int .i64 m.boot, .int .i64 m.view, .int .i64 m.last, .int .i64 m.mem, .int .i64 m.pos, .slice A m.es.length c, .int .i64 m.com, .int .i64 m.num, .int .i64 m.clk, .bool m.yes] 30)
  show Calls _ _ #[_, .agg #[.int .i64 m.kind, .int .i64 m.fr, .int .i64 m.dst, .int .i64 m.boot, .int .i64 m.view, .int .i64 m.last, .int .i64 m.mem, .int .i64 m.pos, .slice A m.es.length c, .int .i64 m.com, .int .i64 m.num, .int .i64 m.clk, .bool m.yes]] _ _
  go_enter Try.func11, Try.ntmps11
  go_wp2_with fail
  go_ret
  exact ⟨rfl, b0⟩

section
variable (w : World) (g : Nat) (me n boot pro : Int) (m0 : Msg) (A0 : Option Addr) (c0 : Nat) (got : Bool) (hB : Blk w g 43 (jcs me n boot pro m0 A0 c0 got)) (m : Msg) (A : Option Addr) (c : Nat)
include hB
set_option maxHeartbeats 4000000 in
set_option maxRecDepth 100000 in
theorem isAns_c : Calls Try.prog 17 #[.pointer (some ⟨g, 0, none⟩), mv m A c] w fun e w' => e = .returned (.bool (isAns me boot m)) ∧ Below w.heap.size w w' := by
  have b0 := (Below.refl w.heap.size w).alloc (Nat.le_refl _) (.cells #[.int .i64 m.kind, .int .i64 m.fr, .int .i64 m.dst, .int .i64 m.boot, .int .i64 m.view, .int .i64 m.last, .int .i64 m.mem, .int .i64 m.pos, .slice A m.es.length c, .int .i64 m.com, .int .i64 m.num, .int .i64 m.clk, .bool m.yes] 30)
  have K := Blk.new w #[.int .i64 m.kind, .int .i64 m.fr, .int .i64 m.dst, .int .i64 m.boot, .int .i64 m.view, .int .i64 m.last, .int .i64 m.mem, .int .i64 m.pos, .slice A m.es.length c, .int .i64 m.com, .int .i64 m.num, .int .i64 m.clk, .bool m.yes] 30
  obtain ⟨d0, d1, d2, d3, d4⟩ := (hB.alloc (.cells #[.int .i64 m.kind, .int .i64 m.fr, .int .i64 m.dst, .int .i64 m.boot, .int .i64 m.view, .int .i64 m.last, .int .i64 m.mem, .int .i64 m.pos, .slice A m.es.length c, .int .i64 m.com, .int .i64 m.num, .int .i64 m.clk, .bool m.yes] 30)).join
  have f0 := K.cell (i := 0) rfl
  have f2 := K.cell (i := 2) rfl
  have f10 := K.cell (i := 10) rfl
  have f12 := K.cell (i := 12) rfl
  have hI : isAns me boot m = (m.kind == 11 && (m.dst == me && (m.yes && m.num == boot))) := rfl
  have HI := Lib.hid hI
  clear K hB hI d1 d3 d4
  show Calls _ _ #[_, .agg #[.int .i64 m.kind, .int .i64 m.fr, .int .i64 m.dst, .int .i64 m.boot, .int .i64 m.view, .int .i64 m.last, .int .i64 m.mem, .int .i64 m.pos, .slice A m.es.length c, .int .i64 m.com, .int .i64 m.num, .int .i64 m.clk, .bool m.yes]] _ _
  go_enter Try.func17, Try.ntmps17
  go_wp2_with fail
  have b1 := Lib.hid b0
  clear b0
  generalize w.alloc (.cells #[.int .i64 m.kind, .int .i64 m.fr, .int .i64 m.dst, .int .i64 m.boot, .int .i64 m.view, .int .i64 m.last, .int .i64 m.mem, .int .i64 m.pos, .slice A m.es.length c, .int .i64 m.com, .int .i64 m.num, .int .i64 m.clk, .bool m.yes] 30) = w1 at *
  cases h1 : (m.kind == 11)
  · go_quiet (fail)
    go_wp2_with fail
    go_ret
    exact ⟨by rw [HI.out, h1]; rfl, b1.out.trans ⟨rfl, rfl, rfl, Nat.le_refl _, fun _ _ => rfl⟩⟩
  · cases h2 : (m.dst == me)
    · go_quiet (fail)
      go_wp2_with fail
      go_ret
      exact ⟨by rw [HI.out, h1, h2]; rfl, b1.out.trans ⟨rfl, rfl, rfl, Nat.le_refl _, fun _ _ => rfl⟩⟩
    · cases h3 : m.yes
      · rw [h3] at f12
        go_quiet (fail)
        go_wp2_with fail
        go_ret
        exact ⟨by rw [HI.out, h1, h2, h3]; rfl, b1.out.trans ⟨rfl, rfl, rfl, Nat.le_refl _, fun _ _ => rfl⟩⟩
      · rw [h3] at f12
        cases h4 : (m.num == boot)
        all_goals
          go_quiet (fail)
          go_wp2_with fail
          go_ret
          exact ⟨by rw [HI.out, h1, h2, h3, h4]; rfl, b1.out.trans ⟨rfl, rfl, rfl, Nat.le_refl _, fun _ _ => rfl⟩⟩

set_option maxHeartbeats 4000000 in
set_option maxRecDepth 100000 in
theorem isDec_c (hv : -9223372036854775808 ≤ m.view ∧ m.view ≤ 9223372036854775807) (hm : -9223372036854775808 ≤ m.mem ∧ m.mem ≤ 9223372036854775807) :
    Calls Try.prog 18 #[.pointer (some ⟨g, 0, none⟩), mv m A c] w fun e w' => e = .returned (.bool (isDec n pro m)) ∧ Below w.heap.size w w' := by
  have b0 := (Below.refl w.heap.size w).alloc (Nat.le_refl _) (.cells #[.int .i64 m.kind, .int .i64 m.fr, .int .i64 m.dst, .int .i64 m.boot, .int .i64 m.view, .int .i64 m.last, .int .i64 m.mem, .int .i64 m.pos, .slice A m.es.length c, .int .i64 m.com, .int .i64 m.num, .int .i64 m.clk, .bool m.yes] 30)
  have K := Blk.new w #[.int .i64 m.kind, .int .i64 m.fr, .int .i64 m.dst, .int .i64 m.boot, .int .i64 m.view, .int .i64 m.last, .int .i64 m.mem, .int .i64 m.pos, .slice A m.es.length c, .int .i64 m.com, .int .i64 m.num, .int .i64 m.clk, .bool m.yes] 30
  obtain ⟨d0, d1, d2, d3, d4⟩ := (hB.alloc (.cells #[.int .i64 m.kind, .int .i64 m.fr, .int .i64 m.dst, .int .i64 m.boot, .int .i64 m.view, .int .i64 m.last, .int .i64 m.mem, .int .i64 m.pos, .slice A m.es.length c, .int .i64 m.com, .int .i64 m.num, .int .i64 m.clk, .bool m.yes] 30)).join
  have f1 := K.cell (i := 1) rfl
  have f4 := K.cell (i := 4) rfl
  have f6 := K.cell (i := 6) rfl
  have hI : isDec n pro m = (decide (0 < m.view) && (decide (pro ≤ m.view) && (m.fr == PTeam.decider m.view n && (PTeam.most m.mem n && PTeam.has m.mem.toNat m.fr)))) := rfl
  have HI := Lib.hid hI
  have hD : ∀ W : World, Calls Try.prog 24 #[.int .i64 m.view, .int .i64 n] W fun e w' => e = .returned (.int .i64 (PTeam.decider m.view n)) ∧ w' = W := fun W => (tDecider_c W m.view n hv.1 hv.2).mono fun e w' h => ⟨h.1, h.2.symm⟩
  have hM : ∀ W : World, Calls Try.prog 25 #[.int .i64 m.mem, .int .i64 n] W fun e w' => e = .returned (.bool (PTeam.most m.mem n)) ∧ w' = W := fun W => (tMost_c W m.mem n hm.1 hm.2).mono fun e w' h => ⟨h.1, h.2.symm⟩
  have hH : PTeam.most m.mem n = true → ∀ W : World, Calls Try.prog 26 #[.int .i64 m.mem, .int .i64 m.fr] W fun e w' => e = .returned (.bool (PTeam.has m.mem.toNat m.fr)) ∧ w' = W := fun h4 W => by
    obtain ⟨q1, q2, q3, q4⟩ := may_lt (show PTeam.may m.mem n = true from by unfold PTeam.most at h4; exact (Bool.and_eq_true _ _ ▸ h4).1)
    obtain ⟨k, hk⟩ := Int.eq_ofNat_of_zero_le q3
    rw [hk, Int.toNat_natCast]
    exact (tHas_c W k m.fr (by omega)).mono fun e w' h => ⟨h.1, h.2.symm⟩
  generalize PTeam.decider m.view n = dd at *
  generalize PTeam.has m.mem.toNat m.fr = bh at *
  generalize PTeam.most m.mem n = bm at *
  clear K hB hI d0 d2 d4
  show Calls _ _ #[_, .agg #[.int .i64 m.kind, .int .i64 m.fr, .int .i64 m.dst, .int .i64 m.boot, .int .i64 m.view, .int .i64 m.last, .int .i64 m.mem, .int .i64 m.pos, .slice A m.es.length c, .int .i64 m.com, .int .i64 m.num, .int .i64 m.clk, .bool m.yes]] _ _
  go_enter Try.func18, Try.ntmps18
  go_wp2_with fail
  have b1 := Lib.hid b0
  clear b0
  generalize w.alloc (.cells #[.int .i64 m.kind, .int .i64 m.fr, .int .i64 m.dst, .int .i64 m.boot, .int .i64 m.view, .int .i64 m.last, .int .i64 m.mem, .int .i64 m.pos, .slice A m.es.length c, .int .i64 m.com, .int .i64 m.num, .int .i64 m.clk, .bool m.yes] 30) = w1 at *
  cases h1 : decide (0 < m.view)
  · go_quiet (fail)
    go_wp2_with fail
    go_ret
    exact ⟨by rw [HI.out, h1]; rfl, b1.out.trans ⟨rfl, rfl, rfl, Nat.le_refl _, fun _ _ => rfl⟩⟩
  · cases h2 : decide (pro ≤ m.view)
    · go_quiet (fail)
      go_wp2_with fail
      go_ret
      exact ⟨by rw [HI.out, h1, h2]; rfl, b1.out.trans ⟨rfl, rfl, rfl, Nat.le_refl _, fun _ _ => rfl⟩⟩
    · cases h3 : (m.fr == dd)
      · go_quiet (first | (go_at_call 24; refine Calls.quiet_of_same (hD _)))
        go_wp2_with fail
        go_ret
        exact ⟨by rw [HI.out, h1, h2, h3]; rfl, b1.out.trans ⟨rfl, rfl, rfl, Nat.le_refl _, fun _ _ => rfl⟩⟩
      · cases bm
        · go_quiet (first | (go_at_call 24; refine Calls.quiet_of_same (hD _)) | (go_at_call 25; refine Calls.quiet_of_same (hM _)))
          go_wp2_with fail
          go_ret
          exact ⟨by rw [HI.out, h1, h2, h3]; rfl, b1.out.trans ⟨rfl, rfl, rfl, Nat.le_refl _, fun _ _ => rfl⟩⟩
        · go_quiet (first | (go_at_call 24; refine Calls.quiet_of_same (hD _)) | (go_at_call 25; refine Calls.quiet_of_same (hM _)) | (go_at_call 26; refine Calls.quiet_of_same (hH rfl _)))
          go_wp2_with fail
          go_ret
          exact ⟨by rw [HI.out, h1, h2, h3]; rfl, b1.out.trans ⟨rfl, rfl, rfl, Nat.le_refl _, fun _ _ => rfl⟩⟩
end
end Go.Proofs.Ytnpobagipgephaa
