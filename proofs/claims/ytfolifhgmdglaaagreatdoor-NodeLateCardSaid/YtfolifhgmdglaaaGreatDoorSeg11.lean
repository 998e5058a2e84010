/- Package join: New; what is answered of nil; isAnswer, isOfDecider, isWhole. -/
import Derived.Test.YtfolifhgmdglaaaGreatDoorSeg10
import Derived.Test.YtfolifhgmdglaaaGreatDoorSeg4
import Derived.Test.YtfolifhgmdglaaaGreatDoorSeg3
import Derived.BigQuiet
import Derived.Deep.QuietTactic
import Derived.Deep.MidRow
namespace Go.Proofs.YtfolifhgmdglaaaGreatDoor
open Go.RowKit PJoin

theorem may_zero (n : Int) : PTeam.may 0 n = decide (3 ≤ n ∧ n ≤ 7) := by
  unfold PTeam.may
  rw [Bool.eq_iff_iff]
  simp only [Bool.and_eq_true, decide_eq_true_eq]
  constructor
  · exact fun h => h.1
  · intro h
    refine ⟨h, Int.le_refl _, ?_⟩
    exact Int.pow_pos (by decide)

set_option maxRecDepth 100000 in
theorem jnew_yes (w : World) (me n boot pro : Int) (h1 : 3 ≤ n) (h2 : n ≤ 7) (h3 : 1 ≤ me) (h4 : me ≤ n) (h5 : 1 ≤ boot) (h6 : boot ≤ 1099511627776) (h7 : 0 ≤ pro) (h8 : pro ≤ 1099511627776) :
    Calls Tryz.prog 36 #[.int .i64 me, .int .i64 n, .int .i64 boot, .int .i64 pro] w fun e w' => e = .returned (.pointer (some ⟨w.heap.size, 0, none⟩)) ∧ Jn w' w.heap.size [w.heap.size] me n boot pro none ∧ Below w.heap.size w w' := by
  have hm := may_zero n
  rw [decide_eq_true (show 3 ≤ n ∧ n ≤ 7 from ⟨h1, h2⟩)] at hm
  go_enter Tryz.func36, Tryz.ntmps36
  go_wp2_with fail
  refine (tOf_c w w.heap.size none 0 0 [] (Rd.nil _ _ _)).mono ?_
  rintro e w' ⟨rfl, rfl⟩
  go_wp2_with fail
  refine (tMay_c w 0 n (by decide) (by decide)).mono ?_
  rintro e w' ⟨rfl, rfl⟩
  go_wp2_with fail
  go_ret
  exact ⟨rfl, ⟨⟨none, 0, Blk.new w _ _, Ow.nil _ _ _ _, rfl⟩, by decide⟩, (Below.refl _ _).alloc (Nat.le_refl _) _⟩
/-! Of nil. -/
section
variable (w : World) (g : Nat) (me n boot pro : Int) (m0 : Msg) (A0 : Option Addr) (c0 : Nat) (got : Bool) (hB : Blk w g 101 (jcs me n boot pro m0 A0 c0 got)) (m : Msg) (A : Option Addr) (c : Nat)
include hB
set_option maxHeartbeats 4000000 in
set_option maxRecDepth 100000 in
theorem isAns_c : Calls Tryz.prog 185 #[.pointer (some ⟨g, 0, none⟩), mv m A c] w fun e w' => e = .returned (.bool (isAns me boot m)) ∧ Below w.heap.size w w' := by
  have b0 := (Below.refl w.heap.size w).alloc (Nat.le_refl _) (.cells #[.int .i64 m.kind, .int .i64 m.fr, .int .i64 m.dst, .int .i64 m.boot, .int .i64 m.view, .int .i64 m.last, .int .i64 m.mem, .int .i64 m.pos, .slice A m.es.length c, .int .i64 m.com, .int .i64 m.num, .int .i64 m.clk, .bool m.yes] 47)
  have K := Blk.new w #[.int .i64 m.kind, .int .i64 m.fr, .int .i64 m.dst, .int .i64 m.boot, .int .i64 m.view, .int .i64 m.last, .int .i64 m.mem, .int .i64 m.pos, .slice A m.es.length c, .int .i64 m.com, .int .i64 m.num, .int .i64 m.clk, .bool m.yes] 47
  obtain ⟨d0, d1, d2, d3, d4⟩ := (hB.alloc (.cells #[.int .i64 m.kind, .int .i64 m.fr, .int .i64 m.dst, .int .i64 m.boot, .int .i64 m.view, .int .i64 m.last, .int .i64 m.mem, .int .i64 m.pos, .slice A m.es.length c, .int .i64 m.com, .int .i64 m.num, .int .i64 m.clk, .bool m.yes] 47)).join
  have f0 := K.cell (i := 0) rfl
  have f2 := K.cell (i := 2) rfl
  have f10 := K.cell (i := 10) rfl
  have f12 := K.cell (i := 12) rfl
  have hI : isAns me boot m = (m.kind == 11 && (m.dst == me && (m.yes && m.num == boot))) := rfl
  have HI := Lib.hid hI
  clear K hB hI d1 d3 d4
  show Calls _ _ #[_, .agg #[.int .i64 m.kind, .int .i64 m.fr, .int .i64 m.dst, .int .i64 m.boot, .int .i64 m.view, .int .i64 m.last, .int .i64 m.mem, .int .i64 m.pos, .slice A m.es.length c, .int .i64 m.com, .int .i64 m.num, .int .i64 m.clk, .bool m.yes]] _ _
  go_enter Tryz.func185, Tryz.ntmps185
  go_wp2_with fail
  have b1 := Lib.hid b0
  clear b0
  generalize w.alloc (.cells #[.int .i64 m.kind, .int .i64 m.fr, .int .i64 m.dst, .int .i64 m.boot, .int .i64 m.view, .int .i64 m.last, .int .i64 m.mem, .int .i64 m.pos, .slice A m.es.length c, .int .i64 m.com, .int .i64 m.num, .int .i64 m.clk, .bool m.yes] 47) = w1 at *
  cases h1 : (m.kind == 11)
  · go_quiet (fail)
    go_wp2_with fail
    go_ret
    exact ⟨by rw [HI.out, h1]; rfl, b1.out.trans ⟨rfl, rfl, rfl, Nat.le_refl _, fun _ _ => rfl⟩⟩
  · cases h2 : (m.dst == me)
    · go_quiet (fail)
      go_wp2_with fail
      go_ret
      exact ⟨by rw [HI.out, h1, h2]; rfl, b1.out.trans ⟨rfl, rfl, rfl, Nat.le_refl _, fun _ _ => rfl⟩⟩
    · cases h3 : m.yes
      · rw [h3] at f12
        go_quiet (fail)
        go_wp2_with fail
        go_ret
        exact ⟨by rw [HI.out, h1, h2, h3]; rfl, b1.out.trans ⟨rfl, rfl, rfl, Nat.le_refl _, fun _ _ => rfl⟩⟩
      · rw [h3] at f12
        cases h4 : (m.num == boot)
        all_goals
          go_quiet (fail)
          go_wp2_with fail
          go_ret
          exact ⟨by rw [HI.out, h1, h2, h3, h4]; rfl, b1.out.trans ⟨rfl, rfl, rfl, Nat.le_refl _, fun _ _ => rfl⟩⟩

set_option maxHeartbeats 4000000 in
set_option maxRecDepth 100000 in
theorem isDec_c (hv : -9223372036854775808 ≤ m.view ∧ m.view ≤ 9223372036854775807) (hm : -9223372036854775808 ≤ m.mem ∧ m.mem ≤ 9223372036854775807) :
    Calls Tryz.prog 186 #[.pointer (some ⟨g, 0, none⟩), mv m A c] w fun e w' => e = .returned (.bool (isDec n pro m)) ∧ Below w.heap.size w w' := by
  have b0 := (Below.refl w.heap.size w).alloc (Nat.le_refl _) (.cells #[.int .i64 m.kind, .int .i64 m.fr, .int .i64 m.dst, .int .i64 m.boot, .int .i64 m.view, .int .i64 m.last, .int .i64 m.mem, .int .i64 m.pos, .slice A m.es.length c, .int .i64 m.com, .int .i64 m.num, .int .i64 m.clk, .bool m.yes] 47)
  have K := Blk.new w #[.int .i64 m.kind, .int .i64 m.fr, .int .i64 m.dst, .int .i64 m.boot, .int .i64 m.view, .int .i64 m.last, .int .i64 m.mem, .int .i64 m.pos, .slice A m.es.length c, .int .i64 m.com, .int .i64 m.num, .int .i64 m.clk, .bool m.yes] 47
  obtain ⟨d0, d1, d2, d3, d4⟩ := (hB.alloc (.cells #[.int .i64 m.kind, .int .i64 m.fr, .int .i64 m.dst, .int .i64 m.boot, .int .i64 m.view, .int .i64 m.last, .int .i64 m.mem, .int .i64 m.pos, .slice A m.es.length c, .int .i64 m.com, .int .i64 m.num, .int .i64 m.clk, .bool m.yes] 47)).join
  have f1 := K.cell (i := 1) rfl
  have f4 := K.cell (i := 4) rfl
  have f6 := K.cell (i := 6) rfl
  have hI : isDec n pro m = (decide (0 < m.view) && (decide (pro ≤ m.view) && (m.fr == PTeam.decider m.view n && (PTeam.most m.mem n && PTeam.has m.mem.toNat m.fr)))) := rfl
  have HI := Lib.hid hI
  have hD : ∀ W : World, Calls Tryz.prog 119 #[.int .i64 m.view, .int .i64 n] W fun e w' => e = .returned (.int .i64 (PTeam.decider m.view n)) ∧ w' = W := fun W => (tDecider_c W m.view n hv.1 hv.2).mono fun e w' h => ⟨h.1, h.2.symm⟩
  have hM : ∀ W : World, Calls Tryz.prog 134 #[.int .i64 m.mem, .int .i64 n] W fun e w' => e = .returned (.bool (PTeam.most m.mem n)) ∧ w' = W := fun W => (tMost_c W m.mem n hm.1 hm.2).mono fun e w' h => ⟨h.1, h.2.symm⟩
  have hH : PTeam.most m.mem n = true → ∀ W : World, Calls Tryz.prog 61 #[.int .i64 m.mem, .int .i64 m.fr] W fun e w' => e = .returned (.bool (PTeam.has m.mem.toNat m.fr)) ∧ w' = W := fun h4 W => by
    obtain ⟨q1, q2, q3, q4⟩ := may_lt (show PTeam.may m.mem n = true from by unfold PTeam.most at h4; exact (Bool.and_eq_true _ _ ▸ h4).1)
    obtain ⟨k, hk⟩ := Int.eq_ofNat_of_zero_le q3
    rw [hk, Int.toNat_natCast]
    exact (tHas_c W k m.fr (by omega)).mono fun e w' h => ⟨h.1, h.2.symm⟩
  generalize PTeam.decider m.view n = dd at *
  generalize PTeam.has m.mem.toNat m.fr = bh at *
  generalize PTeam.most m.mem n = bm at *
  clear K hB hI d0 d2 d4
  show Calls _ _ #[_, .agg #[.int .i64 m.kind, .int .i64 m.fr, .int .i64 m.dst, .int .i64 m.boot, .int .i64 m.view, .int .i64 m.last, .int .i64 m.mem, .int .i64 m.pos, .slice A m.es.length c, .int .i64 m.com, .int .i64 m.num, .int .i64 m.clk, .bool m.yes]] _ _
  go_enter Tryz.func186, Tryz.ntmps186
  go_wp2_with fail
  have b1 := Lib.hid b0
  clear b0
  generalize w.alloc (.cells #[.int .i64 m.kind, .int .i64 m.fr, .int .i64 m.dst, .int .i64 m.boot, .int .i64 m.view, .int .i64 m.last, .int .i64 m.mem, .int .i64 m.pos, .slice A m.es.length c, .int .i64 m.com, .int .i64 m.num, .int .i64 m.clk, .bool m.yes] 47) = w1 at *
  cases h1 : decide (0 < m.view)
  · go_quiet (fail)
    go_wp2_with fail
    go_ret
    exact ⟨by rw [HI.out, h1]; rfl, b1.out.trans ⟨rfl, rfl, rfl, Nat.le_refl _, fun _ _ => rfl⟩⟩
  · cases h2 : decide (pro ≤ m.view)
    · go_quiet (fail)
      go_wp2_with fail
      go_ret
      exact ⟨by rw [HI.out, h1, h2]; rfl, b1.out.trans ⟨rfl, rfl, rfl, Nat.le_refl _, fun _ _ => rfl⟩⟩
    · cases h3 : (m.fr == dd)
      · go_quiet (first | (go_at_call 119; refine Calls.quiet_of_same (hD _)))
        go_wp2_with fail
        go_ret
        exact ⟨by rw [HI.out, h1, h2, h3]; rfl, b1.out.trans ⟨rfl, rfl, rfl, Nat.le_refl _, fun _ _ => rfl⟩⟩
      · cases bm
        · go_quiet (first | (go_at_call 119; refine Calls.quiet_of_same (hD _)) | (go_at_call 134; refine Calls.quiet_of_same (hM _)))
          go_wp2_with fail
          go_ret
          exact ⟨by rw [HI.out, h1, h2, h3]; rfl, b1.out.trans ⟨rfl, rfl, rfl, Nat.le_refl _, fun _ _ => rfl⟩⟩
        · go_quiet (first | (go_at_call 119; refine Calls.quiet_of_same (hD _)) | (go_at_call 134; refine Calls.quiet_of_same (hM _)) | (go_at_call 61; refine Calls.quiet_of_same (hH rfl _)))
          go_wp2_with fail
          go_ret
          exact ⟨by rw [HI.out, h1, h2, h3]; rfl, b1.out.trans ⟨rfl, rfl, rfl, Nat.le_refl _, fun _ _ => rfl⟩⟩
end
end Go.Proofs.YtfolifhgmdglaaaGreatDoor

/- Package join: isWhole. -/
namespace Go.Proofs.YtfolifhgmdglaaaGreatDoor
open Go.RowKit PJoin

set_option maxHeartbeats 4000000 in
set_option maxRecDepth 100000 in
theorem isAll_c (w : World) (m : Msg) (A : Option Addr) (c : Nat) (R : Rd w w.heap.size A c 7 m.es.length (els m.es)) :
    Calls Tryz.prog 187 #[mv m A c] w fun e w' => e = .returned (.bool (isAll m)) ∧ Below w.heap.size w w' := by
  have hcap := R.cap
  have hle := R.le
  have hn : m.es.length ≤ 9223372036854775807 := by unfold maxLen at hcap; omega
  have B1 := Lib.hid ((Below.refl w.heap.size w).alloc (Nat.le_refl _) (.cells #[.int .i64 m.kind, .int .i64 m.fr, .int .i64 m.dst, .int .i64 m.boot, .int .i64 m.view, .int .i64 m.last, .int .i64 m.mem, .int .i64 m.pos, .slice A m.es.length c, .int .i64 m.com, .int .i64 m.num, .int .i64 m.clk, .bool m.yes] 47))
  have K1 := Lib.hid (Blk.new w #[.int .i64 m.kind, .int .i64 m.fr, .int .i64 m.dst, .int .i64 m.boot, .int .i64 m.view, .int .i64 m.last, .int .i64 m.mem, .int .i64 m.pos, .slice A m.es.length c, .int .i64 m.com, .int .i64 m.num, .int .i64 m.clk, .bool m.yes] 47)
  have R1 := Lib.hid (R.alloc (.cells #[.int .i64 m.kind, .int .i64 m.fr, .int .i64 m.dst, .int .i64 m.boot, .int .i64 m.view, .int .i64 m.last, .int .i64 m.mem, .int .i64 m.pos, .slice A m.es.length c, .int .i64 m.com, .int .i64 m.num, .int .i64 m.clk, .bool m.yes] 47)).tight
  have hI : isAll m = (decide (m.com ≤ m.es.length) && (((PLog.log m.es).length : Int) == (m.es.length : Int))) := rfl
  have HI := Lib.hid hI
  clear R hI hcap hle
  show Calls _ _ #[.agg #[.int .i64 m.kind, .int .i64 m.fr, .int .i64 m.dst, .int .i64 m.boot, .int .i64 m.view, .int .i64 m.last, .int .i64 m.mem, .int .i64 m.pos, .slice A m.es.length c, .int .i64 m.com, .int .i64 m.num, .int .i64 m.clk, .bool m.yes]] _ _
  go_enter Tryz.func187, Tryz.ntmps187
  go_wp2_with fail
  obtain ⟨k1, hk1⟩ : ∃ k, w.heap.size = k := ⟨_, rfl⟩
  rw [hk1] at K1 ⊢
  clear hk1
  generalize w.alloc (.cells #[.int .i64 m.kind, .int .i64 m.fr, .int .i64 m.dst, .int .i64 m.boot, .int .i64 m.view, .int .i64 m.last, .int .i64 m.mem, .int .i64 m.pos, .slice A m.es.length c, .int .i64 m.com, .int .i64 m.num, .int .i64 m.clk, .bool m.yes] 47) = w1 at *
  by_cases hc : m.com ≤ m.es.length
  · have h1 : decide (m.com ≤ (m.es.length : Int)) = true := decide_eq_true hc
-- REGION curfew/join.isWhole 1 jwholet 4
    refine Hb.begin ?_
    refine Hb.take (v := .pointer (some ⟨k1, 9, none⟩)) 0 3 rfl ?_ (fun w' hw' => by go_simp; first | done | rfl | omega | exact wrap_in (by omega) (by omega) | exact Int.tmod_eq_emod_of_nonneg (by omega) | exact Int.tdiv_eq_ediv_of_nonneg (by omega) | (simp; omega))
    refine Hb.take (v := .int .i64 m.com) 1 4 rfl ?_ (fun w' hw' => by exact run_loadJi ((K1.out.drew.past hw').cell (i := 9) rfl) rfl)
    refine Hb.take (v := .pointer (some ⟨k1, 8, none⟩)) 2 5 rfl ?_ (fun w' hw' => by go_simp; first | done | rfl | omega | exact wrap_in (by omega) (by omega) | exact Int.tmod_eq_emod_of_nonneg (by omega) | exact Int.tdiv_eq_ediv_of_nonneg (by omega) | (simp; omega))
    refine Hb.take (v := .slice A m.es.length c) 3 6 rfl ?_ (fun w' hw' => by exact run_load1 ((K1.out.drew.past hw').cell (i := 8) rfl) rfl)
    refine Hb.take (v := .int .i64 (m.es.length : Int)) 4 7 rfl ?_ (fun w' hw' => by go_simp; first | done | rfl | omega | exact wrap_in (by omega) (by omega) | exact Int.tmod_eq_emod_of_nonneg (by omega) | exact Int.tdiv_eq_ediv_of_nonneg (by omega) | (simp; omega))
    refine Hb.take (v := .bool true) 5 8 rfl ?_ (fun w' hw' => by go_simp; first | done | rfl | omega | exact wrap_in (by omega) (by omega) | exact Int.tmod_eq_emod_of_nonneg (by omega) | exact Int.tdiv_eq_ediv_of_nonneg (by omega) | (simp; omega))
    refine Hb.take (v := .bool true) 6 9 rfl ?_ (fun _ _ => rfl)
    refine Hb.take (v := .pointer (some ⟨k1, 8, none⟩)) 7 10 rfl ?_ (fun w' hw' => by go_simp; first | done | rfl | omega | exact wrap_in (by omega) (by omega) | exact Int.tmod_eq_emod_of_nonneg (by omega) | exact Int.tdiv_eq_ediv_of_nonneg (by omega) | (simp; omega))
    refine Hb.take (v := .slice A m.es.length c) 8 11 rfl ?_ (fun w' hw' => by exact run_load1 ((K1.out.drew.past hw').cell (i := 8) rfl) rfl)
    refine Hb.take (v := .pointer (some ⟨k1, 8, none⟩)) 11 14 rfl ?_ (fun w' hw' => by go_simp; first | done | rfl | omega | exact wrap_in (by omega) (by omega) | exact Int.tmod_eq_emod_of_nonneg (by omega) | exact Int.tdiv_eq_ediv_of_nonneg (by omega) | (simp; omega))
    refine Hb.take (v := .slice A m.es.length c) 12 15 rfl ?_ (fun w' hw' => by exact run_load1 ((K1.out.drew.past hw').cell (i := 8) rfl) rfl)
    refine Hb.take (v := .int .i64 (m.es.length : Int)) 13 16 rfl ?_ (fun w' hw' => by go_simp; first | done | rfl | omega | exact wrap_in (by omega) (by omega) | exact Int.tmod_eq_emod_of_nonneg (by omega) | exact Int.tdiv_eq_ediv_of_nonneg (by omega) | (simp; omega))
    refine Hb.call (f := 35) (args := #[.slice A m.es.length c]) 9 12 rfl ?_ (run_callf Tryz.func35 (by kernel_rfl) (by kernel_rfl) (by simp only [List.map_toArray, List.map_cons, List.map_nil]; rfl))
    refine (New_c _ _ A c m.es.length m.es R1.out.drew).mono ?_
    rintro e w2 ⟨gl, F, rfl, l2, f2, b2⟩
    have L2 := Lib.hid l2
    have B2 := Lib.hid (B1.out.drew.trans (b2.mono B1.out.size))
    clear l2 f2
    refine Hb.back b2 (Nat.le_refl _) ?_
    refine Hb.call (f := 135) (args := #[.pointer (some ⟨gl, 0, none⟩)]) 10 13 rfl ?_ (run_callf Tryz.func135 (by kernel_rfl) (by kernel_rfl) (by simp only [List.map_toArray, List.map_cons, List.map_nil]; rfl))
    refine (Len_c w2 gl F _ L2.out).mono ?_
    rintro e w3 ⟨rfl, rfl⟩
    refine Hb.back (Below.refl _ _) (Nat.le_refl _) ?_
    refine Hb.take (v := .bool (((PLog.log m.es).length : Int) == (m.es.length : Int))) 14 17 rfl ?_ (fun w' hw' => by go_simp; first | done | rfl | omega | exact wrap_in (by omega) (by omega) | exact Int.tmod_eq_emod_of_nonneg (by omega) | exact Int.tdiv_eq_ediv_of_nonneg (by omega) | (simp; omega))
    refine Hb.take (v := .bool (((PLog.log m.es).length : Int) == (m.es.length : Int))) 15 18 rfl ?_ (fun _ _ => rfl)
    refine Hb.take (v := .bool (((PLog.log m.es).length : Int) == (m.es.length : Int))) 16 2 rfl ?_ (fun _ _ => rfl)
    refine Hb.done ?_
-- END
    go_wp2_with fail
    go_ret
    exact ⟨by rw [HI.out, h1]; rfl, B2.out⟩
  · have h1 : decide (m.com ≤ (m.es.length : Int)) = false := decide_eq_false hc
-- REGION curfew/join.isWhole 1 jwholef 4
    refine Hb.begin ?_
    refine Hb.take (v := .pointer (some ⟨k1, 9, none⟩)) 0 3 rfl ?_ (fun w' hw' => by go_simp; first | done | rfl | omega | exact wrap_in (by omega) (by omega) | exact Int.tmod_eq_emod_of_nonneg (by omega) | exact Int.tdiv_eq_ediv_of_nonneg (by omega) | (simp; omega))
    refine Hb.take (v := .int .i64 m.com) 1 4 rfl ?_ (fun w' hw' => by exact run_loadJi ((K1.out.drew.past hw').cell (i := 9) rfl) rfl)
    refine Hb.take (v := .pointer (some ⟨k1, 8, none⟩)) 2 5 rfl ?_ (fun w' hw' => by go_simp; first | done | rfl | omega | exact wrap_in (by omega) (by omega) | exact Int.tmod_eq_emod_of_nonneg (by omega) | exact Int.tdiv_eq_ediv_of_nonneg (by omega) | (simp; omega))
    refine Hb.take (v := .slice A m.es.length c) 3 6 rfl ?_ (fun w' hw' => by exact run_load1 ((K1.out.drew.past hw').cell (i := 8) rfl) rfl)
    refine Hb.take (v := .int .i64 (m.es.length : Int)) 4 7 rfl ?_ (fun w' hw' => by go_simp; first | done | rfl | omega | exact wrap_in (by omega) (by omega) | exact Int.tmod_eq_emod_of_nonneg (by omega) | exact Int.tdiv_eq_ediv_of_nonneg (by omega) | (simp; omega))
    refine Hb.take (v := .bool false) 5 8 rfl ?_ (fun w' hw' => by go_simp; first | done | rfl | omega | exact wrap_in (by omega) (by omega) | exact Int.tmod_eq_emod_of_nonneg (by omega) | exact Int.tdiv_eq_ediv_of_nonneg (by omega) | (simp; omega))
    refine Hb.take (v := .bool false) 6 9 rfl ?_ (fun _ _ => rfl)
    refine Hb.pass 7 10 rfl ?_
    refine Hb.pass 8 11 rfl ?_
    refine Hb.pass 9 12 rfl ?_
    refine Hb.pass 10 13 rfl ?_
    refine Hb.pass 11 14 rfl ?_
    refine Hb.pass 12 15 rfl ?_
    refine Hb.pass 13 16 rfl ?_
    refine Hb.pass 14 17 rfl ?_
    refine Hb.take (v := Value.bool false) 15 18 rfl ?_ (fun _ _ => rfl)
    refine Hb.take (v := Value.bool false) 16 2 rfl ?_ (fun _ _ => rfl)
    refine Hb.done ?_
-- END
    go_wp2_with fail
    go_ret
    exact ⟨by rw [HI.out, h1]; rfl, B1.out.drew⟩
end Go.Proofs.YtfolifhgmdglaaaGreatDoor

/- Package join: Hear, Got. -/
namespace Go.Proofs.YtfolifhgmdglaaaGreatDoor
open Go.RowKit PJoin

section
variable (w : World) (g : Nat) (F : List Nat) (me n boot pro : Int) (m : Msg) (A : Option Addr) (c : Nat) (R : Rd w w.heap.size A c 7 m.es.length (els m.es)) (hv : -9223372036854775808 ≤ m.view ∧ m.view ≤ 9223372036854775807) (hm : -9223372036854775808 ≤ m.mem ∧ m.mem ≤ 9223372036854775807)
include R
set_option maxHeartbeats 4000000 in
set_option maxRecDepth 100000 in
theorem jhear_got (o : Msg) (h : Jn w g F me n boot pro (some o)) : Calls Tryz.prog 147 #[.pointer (some ⟨g, 0, none⟩), mv m A c] w fun e w' => e = .returned (.bool false) ∧ Below w.heap.size w w' := by
  obtain ⟨m0, A0, c0, hB⟩ := h.blk
  have B1 := Lib.hid ((Below.refl w.heap.size w).alloc (Nat.le_refl _) (.cells #[.int .i64 m.kind, .int .i64 m.fr, .int .i64 m.dst, .int .i64 m.boot, .int .i64 m.view, .int .i64 m.last, .int .i64 m.mem, .int .i64 m.pos, .slice A m.es.length c, .int .i64 m.com, .int .i64 m.num, .int .i64 m.clk, .bool m.yes] 47))
  have J1 := Lib.hid (hB.alloc (.cells #[.int .i64 m.kind, .int .i64 m.fr, .int .i64 m.dst, .int .i64 m.boot, .int .i64 m.view, .int .i64 m.last, .int .i64 m.mem, .int .i64 m.pos, .slice A m.es.length c, .int .i64 m.com, .int .i64 m.num, .int .i64 m.clk, .bool m.yes] 47))
  have K1 := Lib.hid (show Blk (w.alloc (.cells #[.int .i64 m.kind, .int .i64 m.fr, .int .i64 m.dst, .int .i64 m.boot, .int .i64 m.view, .int .i64 m.last, .int .i64 m.mem, .int .i64 m.pos, .slice A m.es.length c, .int .i64 m.com, .int .i64 m.num, .int .i64 m.clk, .bool m.yes] 47)) w.heap.size 47 (mcs m A c) from Blk.new w #[.int .i64 m.kind, .int .i64 m.fr, .int .i64 m.dst, .int .i64 m.boot, .int .i64 m.view, .int .i64 m.last, .int .i64 m.mem, .int .i64 m.pos, .slice A m.es.length c, .int .i64 m.com, .int .i64 m.num, .int .i64 m.clk, .bool m.yes] 47)
  have R1 := Lib.hid ((R.alloc (.cells #[.int .i64 m.kind, .int .i64 m.fr, .int .i64 m.dst, .int .i64 m.boot, .int .i64 m.view, .int .i64 m.last, .int .i64 m.mem, .int .i64 m.pos, .slice A m.es.length c, .int .i64 m.com, .int .i64 m.num, .int .i64 m.clk, .bool m.yes] 47)).tight)
  obtain ⟨d0, d1, d2, d3, d4⟩ := J1.out.join
  clear hB h R K1 J1 R1 d0 d1 d2 d3
  show Calls _ _ #[_, .agg #[.int .i64 m.kind, .int .i64 m.fr, .int .i64 m.dst, .int .i64 m.boot, .int .i64 m.view, .int .i64 m.last, .int .i64 m.mem, .int .i64 m.pos, .slice A m.es.length c, .int .i64 m.com, .int .i64 m.num, .int .i64 m.clk, .bool m.yes]] _ _
  go_enter Tryz.func147, Tryz.ntmps147
  go_wp2_with fail
  go_ret
  exact ⟨rfl, B1.out⟩
set_option maxHeartbeats 4000000 in
set_option maxRecDepth 100000 in
theorem jhear_ans (h : Jn w g F me n boot pro none) (h1 : isAns me boot m = false) : Calls Tryz.prog 147 #[.pointer (some ⟨g, 0, none⟩), mv m A c] w fun e w' => e = .returned (.bool false) ∧ Below w.heap.size w w' := by
  obtain ⟨m0, A0, c0, hB⟩ := h.blk
  have B1 := Lib.hid ((Below.refl w.heap.size w).alloc (Nat.le_refl _) (.cells #[.int .i64 m.kind, .int .i64 m.fr, .int .i64 m.dst, .int .i64 m.boot, .int .i64 m.view, .int .i64 m.last, .int .i64 m.mem, .int .i64 m.pos, .slice A m.es.length c, .int .i64 m.com, .int .i64 m.num, .int .i64 m.clk, .bool m.yes] 47))
  have J1 := Lib.hid (hB.alloc (.cells #[.int .i64 m.kind, .int .i64 m.fr, .int .i64 m.dst, .int .i64 m.boot, .int .i64 m.view, .int .i64 m.last, .int .i64 m.mem, .int .i64 m.pos, .slice A m.es.length c, .int .i64 m.com, .int .i64 m.num, .int .i64 m.clk, .bool m.yes] 47))
  have K1 := Lib.hid (show Blk (w.alloc (.cells #[.int .i64 m.kind, .int .i64 m.fr, .int .i64 m.dst, .int .i64 m.boot, .int .i64 m.view, .int .i64 m.last, .int .i64 m.mem, .int .i64 m.pos, .slice A m.es.length c, .int .i64 m.com, .int .i64 m.num, .int .i64 m.clk, .bool m.yes] 47)) w.heap.size 47 (mcs m A c) from Blk.new w #[.int .i64 m.kind, .int .i64 m.fr, .int .i64 m.dst, .int .i64 m.boot, .int .i64 m.view, .int .i64 m.last, .int .i64 m.mem, .int .i64 m.pos, .slice A m.es.length c, .int .i64 m.com, .int .i64 m.num, .int .i64 m.clk, .bool m.yes] 47)
  have R1 := Lib.hid ((R.alloc (.cells #[.int .i64 m.kind, .int .i64 m.fr, .int .i64 m.dst, .int .i64 m.boot, .int .i64 m.view, .int .i64 m.last, .int .i64 m.mem, .int .i64 m.pos, .slice A m.es.length c, .int .i64 m.com, .int .i64 m.num, .int .i64 m.clk, .bool m.yes] 47)).tight)
  obtain ⟨d0, d1, d2, d3, d4⟩ := J1.out.join
  clear hB R h
  show Calls _ _ #[_, .agg #[.int .i64 m.kind, .int .i64 m.fr, .int .i64 m.dst, .int .i64 m.boot, .int .i64 m.view, .int .i64 m.last, .int .i64 m.mem, .int .i64 m.pos, .slice A m.es.length c, .int .i64 m.com, .int .i64 m.num, .int .i64 m.clk, .bool m.yes]] _ _
  go_enter Tryz.func147, Tryz.ntmps147
  go_wp2_with ((with_reducible show wpList _ _ _ ((⟨some 15, Op.load _ _, _, _, _, _⟩ : Oper) :: _) _ _); go_must (refine wpList_unguard rfl ?_; refine wpList_load_row rfl 47 (.tmp 3) rfl w.heap.size rfl 47 #[.int .i64 m.kind, .int .i64 m.fr, .int .i64 m.dst, .int .i64 m.boot, .int .i64 m.view, .int .i64 m.last, .int .i64 m.mem, .int .i64 m.pos, .slice A m.es.length c, .int .i64 m.com, .int .i64 m.num, .int .i64 m.clk, .bool m.yes] (0, 0) _ K1.out Tryz.underlying47 rfl (by kernel_rfl) ?_))
  obtain ⟨k1, hk1⟩ : ∃ k, w.heap.size = k := ⟨_, rfl⟩
  rw [hk1] at K1 ⊢
  clear hk1 d0 d1 d2 d3 d4
  generalize w.alloc (.cells #[.int .i64 m.kind, .int .i64 m.fr, .int .i64 m.dst, .int .i64 m.boot, .int .i64 m.view, .int .i64 m.last, .int .i64 m.mem, .int .i64 m.pos, .slice A m.es.length c, .int .i64 m.com, .int .i64 m.num, .int .i64 m.clk, .bool m.yes] 47) = w1 at *
  refine (isAns_c w1 g me n boot pro m0 A0 c0 _ J1.out m A c).mono ?_
  rw [h1]
  rintro e w2 ⟨rfl, b2⟩
  have B2 := Lib.hid (B1.out.trans (b2.mono B1.out.size))
  have J2 := Lib.hid (J1.out.past b2)
  have K2 := Lib.hid (K1.out.past b2)
  have R2 := Lib.hid (R1.out.past b2).tight
  clear b2 B1 J1 K1 R1
  go_wp2_with fail
  go_ret
  exact ⟨rfl, B2.out⟩
include hv hm
set_option maxHeartbeats 4000000 in
set_option maxRecDepth 100000 in
theorem jhear_dec (h : Jn w g F me n boot pro none) (h1 : isAns me boot m = true) (h2 : isDec n pro m = false) : Calls Tryz.prog 147 #[.pointer (some ⟨g, 0, none⟩), mv m A c] w fun e w' => e = .returned (.bool false) ∧ Below w.heap.size w w' := by
  obtain ⟨m0, A0, c0, hB⟩ := h.blk
  have B1 := Lib.hid ((Below.refl w.heap.size w).alloc (Nat.le_refl _) (.cells #[.int .i64 m.kind, .int .i64 m.fr, .int .i64 m.dst, .int .i64 m.boot, .int .i64 m.view, .int .i64 m.last, .int .i64 m.mem, .int .i64 m.pos, .slice A m.es.length c, .int .i64 m.com, .int .i64 m.num, .int .i64 m.clk, .bool m.yes] 47))
  have J1 := Lib.hid (hB.alloc (.cells #[.int .i64 m.kind, .int .i64 m.fr, .int .i64 m.dst, .int .i64 m.boot, .int .i64 m.view, .int .i64 m.last, .int .i64 m.mem, .int .i64 m.pos, .slice A m.es.length c, .int .i64 m.com, .int .i64 m.num, .int .i64 m.clk, .bool m.yes] 47))
  have K1 := Lib.hid (show Blk (w.alloc (.cells #[.int .i64 m.kind, .int .i64 m.fr, .int .i64 m.dst, .int .i64 m.boot, .int .i64 m.view, .int .i64 m.last, .int .i64 m.mem, .int .i64 m.pos, .slice A m.es.length c, .int .i64 m.com, .int .i64 m.num, .int .i64 m.clk, .bool m.yes] 47)) w.heap.size 47 (mcs m A c) from Blk.new w #[.int .i64 m.kind, .int .i64 m.fr, .int .i64 m.dst, .int .i64 m.boot, .int .i64 m.view, .int .i64 m.last, .int .i64 m.mem, .int .i64 m.pos, .slice A m.es.length c, .int .i64 m.com, .int .i64 m.num, .int .i64 m.clk, .bool m.yes] 47)
  have R1 := Lib.hid ((R.alloc (.cells #[.int .i64 m.kind, .int .i64 m.fr, .int .i64 m.dst, .int .i64 m.boot, .int .i64 m.view, .int .i64 m.last, .int .i64 m.mem, .int .i64 m.pos, .slice A m.es.length c, .int .i64 m.com, .int .i64 m.num, .int .i64 m.clk, .bool m.yes] 47)).tight)
  obtain ⟨d0, d1, d2, d3, d4⟩ := J1.out.join
  clear hB R h
  show Calls _ _ #[_, .agg #[.int .i64 m.kind, .int .i64 m.fr, .int .i64 m.dst, .int .i64 m.boot, .int .i64 m.view, .int .i64 m.last, .int .i64 m.mem, .int .i64 m.pos, .slice A m.es.length c, .int .i64 m.com, .int .i64 m.num, .int .i64 m.clk, .bool m.yes]] _ _
  go_enter Tryz.func147, Tryz.ntmps147
  go_wp2_with ((with_reducible show wpList _ _ _ ((⟨some 15, Op.load _ _, _, _, _, _⟩ : Oper) :: _) _ _); go_must (refine wpList_unguard rfl ?_; refine wpList_load_row rfl 47 (.tmp 3) rfl w.heap.size rfl 47 #[.int .i64 m.kind, .int .i64 m.fr, .int .i64 m.dst, .int .i64 m.boot, .int .i64 m.view, .int .i64 m.last, .int .i64 m.mem, .int .i64 m.pos, .slice A m.es.length c, .int .i64 m.com, .int .i64 m.num, .int .i64 m.clk, .bool m.yes] (0, 0) _ K1.out Tryz.underlying47 rfl (by kernel_rfl) ?_))
  obtain ⟨k1, hk1⟩ : ∃ k, w.heap.size = k := ⟨_, rfl⟩
  rw [hk1] at K1 ⊢
  clear hk1 d0 d1 d2 d3 d4
  generalize w.alloc (.cells #[.int .i64 m.kind, .int .i64 m.fr, .int .i64 m.dst, .int .i64 m.boot, .int .i64 m.view, .int .i64 m.last, .int .i64 m.mem, .int .i64 m.pos, .slice A m.es.length c, .int .i64 m.com, .int .i64 m.num, .int .i64 m.clk, .bool m.yes] 47) = w1 at *
  refine (isAns_c w1 g me n boot pro m0 A0 c0 _ J1.out m A c).mono ?_
  rw [h1]
  rintro e w2 ⟨rfl, b2⟩
  have B2 := Lib.hid (B1.out.trans (b2.mono B1.out.size))
  have J2 := Lib.hid (J1.out.past b2)
  have K2 := Lib.hid (K1.out.past b2)
  have R2 := Lib.hid (R1.out.past b2).tight
  clear b2 B1 J1 K1 R1
  go_wp2_with ((with_reducible show wpList _ _ _ ((⟨some 21, Op.load _ _, _, _, _, _⟩ : Oper) :: _) _ _); go_must (refine wpList_unguard rfl ?_; refine wpList_load_row rfl 47 (.tmp 3) rfl k1 rfl 47 #[.int .i64 m.kind, .int .i64 m.fr, .int .i64 m.dst, .int .i64 m.boot, .int .i64 m.view, .int .i64 m.last, .int .i64 m.mem, .int .i64 m.pos, .slice A m.es.length c, .int .i64 m.com, .int .i64 m.num, .int .i64 m.clk, .bool m.yes] (0, 0) _ K2.out Tryz.underlying47 rfl (by kernel_rfl) ?_))
  refine (isDec_c w2 g me n boot pro m0 A0 c0 _ J2.out m A c hv hm).mono ?_
  rw [h2]
  rintro e w3 ⟨rfl, b3⟩
  have B3 := Lib.hid (B2.out.trans (b3.mono B2.out.size))
  have J3 := Lib.hid (J2.out.past b3)
  have K3 := Lib.hid (K2.out.past b3)
  have R3 := Lib.hid (R2.out.past b3).tight
  clear b3 B2 J2 K2 R2
  go_wp2_with fail
  go_ret
  exact ⟨rfl, B3.out⟩
set_option maxHeartbeats 4000000 in
set_option maxRecDepth 100000 in
theorem jhear_all (h : Jn w g F me n boot pro none) (h1 : isAns me boot m = true) (h2 : isDec n pro m = true) (h3 : isAll m = false) : Calls Tryz.prog 147 #[.pointer (some ⟨g, 0, none⟩), mv m A c] w fun e w' => e = .returned (.bool false) ∧ Below w.heap.size w w' := by
  obtain ⟨m0, A0, c0, hB⟩ := h.blk
  have B1 := Lib.hid ((Below.refl w.heap.size w).alloc (Nat.le_refl _) (.cells #[.int .i64 m.kind, .int .i64 m.fr, .int .i64 m.dst, .int .i64 m.boot, .int .i64 m.view, .int .i64 m.last, .int .i64 m.mem, .int .i64 m.pos, .slice A m.es.length c, .int .i64 m.com, .int .i64 m.num, .int .i64 m.clk, .bool m.yes] 47))
  have J1 := Lib.hid (hB.alloc (.cells #[.int .i64 m.kind, .int .i64 m.fr, .int .i64 m.dst, .int .i64 m.boot, .int .i64 m.view, .int .i64 m.last, .int .i64 m.mem, .int .i64 m.pos, .slice A m.es.length c, .int .i64 m.com, .int .i64 m.num, .int .i64 m.clk, .bool m.yes] 47))
  have K1 := Lib.hid (show Blk (w.alloc (.cells #[.int .i64 m.kind, .int .i64 m.fr, .int .i64 m.dst, .int .i64 m.boot, .int .i64 m.view, .int .i64 m.last, .int .i64 m.mem, .int .i64 m.pos, .slice A m.es.length c, .int .i64 m.com, .int .i64 m.num, .int .i64 m.clk, .bool m.yes] 47)) w.heap.size 47 (mcs m A c) from Blk.new w #[.int .i64 m.kind, .int .i64 m.fr, .int .i64 m.dst, .int .i64 m.boot, .int .i64 m.view, .int .i64 m.last, .int .i64 m.mem, .int .i64 m.pos, .slice A m.es.length c, .int .i64 m.com, .int .i64 m.num, .int .i64 m.clk, .bool m.yes] 47)
  have R1 := Lib.hid ((R.alloc (.cells #[.int .i64 m.kind, .int .i64 m.fr, .int .i64 m.dst, .int .i64 m.boot, .int .i64 m.view, .int .i64 m.last, .int .i64 m.mem, .int .i64 m.pos, .slice A m.es.length c, .int .i64 m.com, .int .i64 m.num, .int .i64 m.clk, .bool m.yes] 47)).tight)
  obtain ⟨d0, d1, d2, d3, d4⟩ := J1.out.join
  clear hB R h
  show Calls _ _ #[_, .agg #[.int .i64 m.kind, .int .i64 m.fr, .int .i64 m.dst, .int .i64 m.boot, .int .i64 m.view, .int .i64 m.last, .int .i64 m.mem, .int .i64 m.pos, .slice A m.es.length c, .int .i64 m.com, .int .i64 m.num, .int .i64 m.clk, .bool m.yes]] _ _
  go_enter Tryz.func147, Tryz.ntmps147
  go_wp2_with ((with_reducible show wpList _ _ _ ((⟨some 15, Op.load _ _, _, _, _, _⟩ : Oper) :: _) _ _); go_must (refine wpList_unguard rfl ?_; refine wpList_load_row rfl 47 (.tmp 3) rfl w.heap.size rfl 47 #[.int .i64 m.kind, .int .i64 m.fr, .int .i64 m.dst, .int .i64 m.boot, .int .i64 m.view, .int .i64 m.last, .int .i64 m.mem, .int .i64 m.pos, .slice A m.es.length c, .int .i64 m.com, .int .i64 m.num, .int .i64 m.clk, .bool m.yes] (0, 0) _ K1.out Tryz.underlying47 rfl (by kernel_rfl) ?_))
  obtain ⟨k1, hk1⟩ : ∃ k, w.heap.size = k := ⟨_, rfl⟩
  rw [hk1] at K1 ⊢
  clear hk1 d0 d1 d2 d3 d4
  generalize w.alloc (.cells #[.int .i64 m.kind, .int .i64 m.fr, .int .i64 m.dst, .int .i64 m.boot, .int .i64 m.view, .int .i64 m.last, .int .i64 m.mem, .int .i64 m.pos, .slice A m.es.length c, .int .i64 m.com, .int .i64 m.num, .int .i64 m.clk, .bool m.yes] 47) = w1 at *
  refine (isAns_c w1 g me n boot pro m0 A0 c0 _ J1.out m A c).mono ?_
  rw [h1]
  rintro e w2 ⟨rfl, b2⟩
  have B2 := Lib.hid (B1.out.trans (b2.mono B1.out.size))
  have J2 := Lib.hid (J1.out.past b2)
  have K2 := Lib.hid (K1.out.past b2)
  have R2 := Lib.hid (R1.out.past b2).tight
  clear b2 B1 J1 K1 R1
  go_wp2_with ((with_reducible show wpList _ _ _ ((⟨some 21, Op.load _ _, _, _, _, _⟩ : Oper) :: _) _ _); go_must (refine wpList_unguard rfl ?_; refine wpList_load_row rfl 47 (.tmp 3) rfl k1 rfl 47 #[.int .i64 m.kind, .int .i64 m.fr, .int .i64 m.dst, .int .i64 m.boot, .int .i64 m.view, .int .i64 m.last, .int .i64 m.mem, .int .i64 m.pos, .slice A m.es.length c, .int .i64 m.com, .int .i64 m.num, .int .i64 m.clk, .bool m.yes] (0, 0) _ K2.out Tryz.underlying47 rfl (by kernel_rfl) ?_))
  refine (isDec_c w2 g me n boot pro m0 A0 c0 _ J2.out m A c hv hm).mono ?_
  rw [h2]
  rintro e w3 ⟨rfl, b3⟩
  have B3 := Lib.hid (B2.out.trans (b3.mono B2.out.size))
  have J3 := Lib.hid (J2.out.past b3)
  have K3 := Lib.hid (K2.out.past b3)
  have R3 := Lib.hid (R2.out.past b3).tight
  clear b3 B2 J2 K2 R2
  go_wp2_with ((with_reducible show wpList _ _ _ ((⟨some 26, Op.load _ _, _, _, _, _⟩ : Oper) :: _) _ _); go_must (refine wpList_unguard rfl ?_; refine wpList_load_row rfl 47 (.tmp 3) rfl k1 rfl 47 #[.int .i64 m.kind, .int .i64 m.fr, .int .i64 m.dst, .int .i64 m.boot, .int .i64 m.view, .int .i64 m.last, .int .i64 m.mem, .int .i64 m.pos, .slice A m.es.length c, .int .i64 m.com, .int .i64 m.num, .int .i64 m.clk, .bool m.yes] (0, 0) _ K3.out Tryz.underlying47 rfl (by kernel_rfl) ?_))
  refine (isAll_c w3 m A c R3.out).mono ?_
  rw [h3]
  rintro e w4 ⟨rfl, b4⟩
  have B4 := Lib.hid (B3.out.trans (b4.mono B3.out.size))
  have J4 := Lib.hid (J3.out.past b4)
  have K4 := Lib.hid (K3.out.past b4)
  have R4 := Lib.hid (R3.out.past b4).tight
  clear b4 B3 J3 K3 R3
  go_wp2_with fail
  go_ret
  exact ⟨rfl, B4.out⟩
theorem jhear_no (o : Option Msg) (h : Jn w g F me n boot pro o) (hw : o.isSome = true ∨ word me n boot pro m = false) : Calls Tryz.prog 147 #[.pointer (some ⟨g, 0, none⟩), mv m A c] w fun e w' => e = .returned (.bool false) ∧ Below w.heap.size w w' := by
  cases o with
  | some o => exact jhear_got w g F me n boot pro m A c R o h
  | none =>
    have hw : word me n boot pro m = false := hw.elim (fun h => by cases h) id
    unfold word at hw
    cases h1 : isAns me boot m with
    | false => exact jhear_ans w g F me n boot pro m A c R h h1
    | true =>
      cases h2 : isDec n pro m with
      | false => exact jhear_dec w g F me n boot pro m A c R hv hm h h1 h2
      | true =>
        rw [h1, h2] at hw
        exact jhear_all w g F me n boot pro m A c R hv hm h h1 h2 hw
end
end Go.Proofs.YtfolifhgmdglaaaGreatDoor

/- Package join: Hear of a word that is taken. -/
namespace Go.Proofs.YtfolifhgmdglaaaGreatDoor
open Go.RowKit PJoin

section
variable (w : World) (g : Nat) (F : List Nat) (me n boot pro : Int) (m : Msg) (A : Option Addr) (c : Nat) (R : Rd w w.heap.size A c 7 m.es.length (els m.es)) (hv : -9223372036854775808 ≤ m.view ∧ m.view ≤ 9223372036854775807) (hm : -9223372036854775808 ≤ m.mem ∧ m.mem ≤ 9223372036854775807)
include R hv hm
set_option maxHeartbeats 4000000 in
set_option maxRecDepth 100000 in
theorem jhear_yes (h : Jn w g F me n boot pro none) (hw : word me n boot pro m = true) : Calls Tryz.prog 147 #[.pointer (some ⟨g, 0, none⟩), mv m A c] w fun e w' => e = .returned (.bool true) ∧ JnW w w' g F me n boot pro (some m) := by
  unfold word at hw
  simp only [Bool.and_eq_true] at hw
  obtain ⟨h1, h2, h3⟩ := hw
  have hlen : m.es.length ≤ 60 := by have := isAll_log h3; have := PLog.log_len m.es; omega
  have HF := Lib.hid h.self
  have HX := Lib.hid h
  obtain ⟨A0, c0, hB, -, -⟩ := h.ex
  obtain ⟨m0, hm0⟩ : ∃ x, x = (none : Option Msg).getD zeroM := ⟨_, rfl⟩
  rw [← hm0] at hB
  clear hm0
  have B1 := Lib.hid ((Below.refl w.heap.size w).alloc (Nat.le_refl _) (.cells #[.int .i64 m.kind, .int .i64 m.fr, .int .i64 m.dst, .int .i64 m.boot, .int .i64 m.view, .int .i64 m.last, .int .i64 m.mem, .int .i64 m.pos, .slice A m.es.length c, .int .i64 m.com, .int .i64 m.num, .int .i64 m.clk, .bool m.yes] 47))
  have J1 := Lib.hid (hB.alloc (.cells #[.int .i64 m.kind, .int .i64 m.fr, .int .i64 m.dst, .int .i64 m.boot, .int .i64 m.view, .int .i64 m.last, .int .i64 m.mem, .int .i64 m.pos, .slice A m.es.length c, .int .i64 m.com, .int .i64 m.num, .int .i64 m.clk, .bool m.yes] 47))
  have K1 := Lib.hid (show Blk (w.alloc (.cells #[.int .i64 m.kind, .int .i64 m.fr, .int .i64 m.dst, .int .i64 m.boot, .int .i64 m.view, .int .i64 m.last, .int .i64 m.mem, .int .i64 m.pos, .slice A m.es.length c, .int .i64 m.com, .int .i64 m.num, .int .i64 m.clk, .bool m.yes] 47)) w.heap.size 47 (mcs m A c) from Blk.new w #[.int .i64 m.kind, .int .i64 m.fr, .int .i64 m.dst, .int .i64 m.boot, .int .i64 m.view, .int .i64 m.last, .int .i64 m.mem, .int .i64 m.pos, .slice A m.es.length c, .int .i64 m.com, .int .i64 m.num, .int .i64 m.clk, .bool m.yes] 47)
  have R1 := Lib.hid ((R.alloc (.cells #[.int .i64 m.kind, .int .i64 m.fr, .int .i64 m.dst, .int .i64 m.boot, .int .i64 m.view, .int .i64 m.last, .int .i64 m.mem, .int .i64 m.pos, .slice A m.es.length c, .int .i64 m.com, .int .i64 m.num, .int .i64 m.clk, .bool m.yes] 47)).tight)
  obtain ⟨d0, d1, d2, d3, d4⟩ := J1.out.join
  clear hB R h
  show Calls _ _ #[_, .agg #[.int .i64 m.kind, .int .i64 m.fr, .int .i64 m.dst, .int .i64 m.boot, .int .i64 m.view, .int .i64 m.last, .int .i64 m.mem, .int .i64 m.pos, .slice A m.es.length c, .int .i64 m.com, .int .i64 m.num, .int .i64 m.clk, .bool m.yes]] _ _
  go_enter Tryz.func147, Tryz.ntmps147
  go_wp2_with ((with_reducible show wpList _ _ _ ((⟨some 15, Op.load _ _, _, _, _, _⟩ : Oper) :: _) _ _); go_must (refine wpList_unguard rfl ?_; refine wpList_load_row rfl 47 (.tmp 3) rfl w.heap.size rfl 47 #[.int .i64 m.kind, .int .i64 m.fr, .int .i64 m.dst, .int .i64 m.boot, .int .i64 m.view, .int .i64 m.last, .int .i64 m.mem, .int .i64 m.pos, .slice A m.es.length c, .int .i64 m.com, .int .i64 m.num, .int .i64 m.clk, .bool m.yes] (0, 0) _ K1.out Tryz.underlying47 rfl (by kernel_rfl) ?_))
  obtain ⟨k1, hk1⟩ : ∃ k, w.heap.size = k := ⟨_, rfl⟩
  rw [hk1] at K1 ⊢
  have HK := Lib.hid (Nat.le_of_eq hk1)
  clear hk1 d0 d1 d2 d3 d4
  generalize w.alloc (.cells #[.int .i64 m.kind, .int .i64 m.fr, .int .i64 m.dst, .int .i64 m.boot, .int .i64 m.view, .int .i64 m.last, .int .i64 m.mem, .int .i64 m.pos, .slice A m.es.length c, .int .i64 m.com, .int .i64 m.num, .int .i64 m.clk, .bool m.yes] 47) = w1 at *
  refine (isAns_c w1 g me n boot pro m0 A0 c0 _ J1.out m A c).mono ?_
  rw [h1]
  rintro e w2 ⟨rfl, b2⟩
  have B2 := Lib.hid (B1.out.trans (b2.mono B1.out.size))
  have J2 := Lib.hid (J1.out.past b2)
  have K2 := Lib.hid (K1.out.past b2)
  have R2 := Lib.hid (R1.out.past b2).tight
  clear b2 B1 J1 K1 R1
  go_wp2_with ((with_reducible show wpList _ _ _ ((⟨some 21, Op.load _ _, _, _, _, _⟩ : Oper) :: _) _ _); go_must (refine wpList_unguard rfl ?_; refine wpList_load_row rfl 47 (.tmp 3) rfl k1 rfl 47 #[.int .i64 m.kind, .int .i64 m.fr, .int .i64 m.dst, .int .i64 m.boot, .int .i64 m.view, .int .i64 m.last, .int .i64 m.mem, .int .i64 m.pos, .slice A m.es.length c, .int .i64 m.com, .int .i64 m.num, .int .i64 m.clk, .bool m.yes] (0, 0) _ K2.out Tryz.underlying47 rfl (by kernel_rfl) ?_))
  refine (isDec_c w2 g me n boot pro m0 A0 c0 _ J2.out m A c hv hm).mono ?_
  rw [h2]
  rintro e w3 ⟨rfl, b3⟩
  have B3 := Lib.hid (B2.out.trans (b3.mono B2.out.size))
  have J3 := Lib.hid (J2.out.past b3)
  have K3 := Lib.hid (K2.out.past b3)
  have R3 := Lib.hid (R2.out.past b3).tight
  clear b3 B2 J2 K2 R2
  go_wp2_with ((with_reducible show wpList _ _ _ ((⟨some 26, Op.load _ _, _, _, _, _⟩ : Oper) :: _) _ _); go_must (refine wpList_unguard rfl ?_; refine wpList_load_row rfl 47 (.tmp 3) rfl k1 rfl 47 #[.int .i64 m.kind, .int .i64 m.fr, .int .i64 m.dst, .int .i64 m.boot, .int .i64 m.view, .int .i64 m.last, .int .i64 m.mem, .int .i64 m.pos, .slice A m.es.length c, .int .i64 m.com, .int .i64 m.num, .int .i64 m.clk, .bool m.yes] (0, 0) _ K3.out Tryz.underlying47 rfl (by kernel_rfl) ?_))
  refine (isAll_c w3 m A c R3.out).mono ?_
  rw [h3]
  rintro e w4 ⟨rfl, b4⟩
  have B4 := Lib.hid (B3.out.trans (b4.mono B3.out.size))
  have J4 := Lib.hid (J3.out.past b4)
  have K4 := Lib.hid (K3.out.past b4)
  have R4 := Lib.hid (R3.out.past b4).tight
  clear b4 B3 J3 K3 R3
  have f8 := K4.out.cell (i := 8) rfl
  go_wp2_with fail
  have HB4 := Lib.hid B4.out.size
  refine (cloneE_c w4 w4.heap.size A c m.es.length m.es R4.out (by omega)).mono ?_
  rintro e w5 ⟨A', c', rfl, own, b5⟩
  have B5 := Lib.hid (B4.out.trans (b5.mono B4.out.size))
  have J5 := J4.out.past b5
  have K5 := K4.out.past b5
  have O5 := Ow.of_own own
  have hlow := O5.low
  have f8 := K5.cell (i := 8) rfl
  have z8 := K5.free 8
  have hgk : g ≠ k1 := J5.ne K5 (by decide)
  have K6 := Lib.hid (show Blk (w5.setCell ⟨k1, 8, none⟩ (.slice A' m.es.length c')) k1 47 (mcs m A' c') from K5.set 8 _)
  have t6 : Touch [k1] w5 (w5.setCell ⟨k1, 8, none⟩ (.slice A' m.es.length c')) := .of_grown (grown_set w5 k1 8 _)
  have J6 := J5.touch t6 (by rw [List.mem_singleton]; exact hgk)
  have O6 := O5.touch t6 (fun s hs => by rw [List.mem_singleton.1 hs]; exact O5.ne K5 (by decide))
  have hkw : w.heap.size ≤ k1 := HK.out
  have T6 := Lib.hid ((Touch.of_below (S := [k1]) B5.out).trans t6)
  clear own b5 J4 K4 R4 B4 K5 J5 O5 B5 t6
  have TH := Lib.hid (J6.there (o := 4) (n := 13) (by simp [jcs]))
  have J7 := Lib.hid (show Blk ((w5.setCell ⟨k1, 8, none⟩ (.slice A' m.es.length c')).setCells g 4 (mcs m A' c')) g 101 (jcs me n boot pro m A' c' false) from by
    rw [jcs_mid] at J6
    have := J6.cells (mcs m A' c') rfl
    rw [← jcs_mid] at this
    exact this)
  have t7 := grown_cells (w5.setCell ⟨k1, 8, none⟩ (.slice A' m.es.length c')) g (mcs m A' c') 4
  have O7 := O6.touch t7 (fun s hs => by rw [List.mem_singleton.1 hs]; exact O6.ne J6 (by decide))
  have T7 := Lib.hid ((T6.out.wide (S' := [k1, g]) (by simp)).trans (t7.wide (by simp)))
  have g17 := J7.out.cell (i := 17) rfl
  have y17 := J7.out.free 17
  have J8 := Lib.hid (show Blk (((w5.setCell ⟨k1, 8, none⟩ (.slice A' m.es.length c')).setCells g 4 (mcs m A' c')).setCell ⟨g, 17, none⟩ (.bool true)) g 101 (jcs me n boot pro m A' c' true) from J7.out.set 17 _)
  have t8 : Touch [g] ((w5.setCell ⟨k1, 8, none⟩ (.slice A' m.es.length c')).setCells g 4 (mcs m A' c')) _ := .of_grown (grown_set _ g 17 (.bool true))
  have O8 := Lib.hid (O7.touch t8 (fun s hs => by rw [List.mem_singleton.1 hs]; exact O7.ne J7.out (by decide)))
  have T8 := Lib.hid (T7.out.trans (t8.wide (by simp)))
  have hlow2 : ∀ x, bk A' = some x → w.heap.size ≤ x := fun x hx => Nat.le_trans HB4.out (hlow x hx)
  have HLOW := Lib.hid hlow2
  clear O6 O7 J6 J7 t7 t8 T6 T7 hlow hlow2
  go_wp2_with (first | ((with_reducible show wpList _ _ _ ((⟨some 36, Op.load _ _, _, _, _, _⟩ : Oper) :: _) _ _); go_must (refine wpList_load_row rfl 47 (.tmp 3) rfl k1 rfl 47 #[.int .i64 m.kind, .int .i64 m.fr, .int .i64 m.dst, .int .i64 m.boot, .int .i64 m.view, .int .i64 m.last, .int .i64 m.mem, .int .i64 m.pos, .slice A' m.es.length c', .int .i64 m.com, .int .i64 m.num, .int .i64 m.clk, .bool m.yes] (0, 0) _ K6.out Tryz.underlying47 rfl (by kernel_rfl) ?_)) | ((with_reducible show wpList _ _ _ ((⟨none, Op.store 47 (.tmp 38) (.tmp 36), _, _, _, _⟩ : Oper) :: _) _ _); go_must (refine wpList_store_midL rfl 47 (.tmp 38) (.tmp 36) rfl g 4 (mcs m A' c') rfl rfl TH.out (by kernel_rfl) (mgc_oneCell ⟨m, A', c'⟩) ?_)))
  go_ret
  refine ⟨rfl, ⟨g :: bl A', ⟨⟨A', c', J8.out, O8.out.down (Nat.zero_le _), rfl⟩, hlen⟩, fun k hk => ?_⟩, ?_⟩
  · rcases List.mem_cons.1 hk with rfl | hk
    · exact .inl HF.out
    · exact .inr (HLOW.out k (mem_bl.1 hk))
  · refine ⟨T8.out.os, T8.out.tape, T8.out.output, T8.out.size, fun k hk hn => T8.out.block k hk (fun hm => ?_)⟩
    rcases List.mem_cons.1 hm with rfl | hm
    · omega
    · rw [List.mem_singleton.1 hm] at hn; exact hn HF.out
end
end Go.Proofs.YtfolifhgmdglaaaGreatDoor

