/- The walk of CrossMost. Made by program (gen10w.py). -/
import Derived.Test.YtapfdceopbkcgaaCrossI
import Derived.Test.YtapfdceopbkcgaaCrossJ
namespace Go.Proofs.Ytapfdceopbkcgaa
open Go.RowKit
open PDrift (pr)
open PCross (at_ cnt)

/-- Whether so many have a time, by the greatest count. -/
theorem most_ok {L : List (Int × Int)} {n lo hi blo : Int} {ok : Bool} {k : Nat} (h : PCross.IsMost L n lo hi ok) (hB : PCross.LowBest L blo k) (hn : 1 ≤ n) : ok = decide (n ≤ (k : Int)) := by
  cases ok
  · rcases (h.no rfl).2.2 with e | e
    · omega
    · refine (decide_eq_false fun hk => ?_).symm
      have h1 := (hB.some (by omega)).1
      have := e blo
      omega
  · obtain ⟨-, h1, -, -⟩ := h.yes rfl
    have := hB.all lo
    exact (decide_eq_true (by omega)).symm

set_option maxHeartbeats 2000000 in
set_option maxRecDepth 100000 in
theorem CrossMost_w (w : World) (A : Option Addr) (c n : Nat) (l : List (Int × Int)) (h : Rd w w.heap.size A c 2 n (tcs l)) (hF : PCross.Fits l) (a0 a1 : Int) :
    Calls Try.prog 8 #[.slice A n c, .int .i64 a0, .int .i64 a1] w fun e w' => e = .returned (.bool true) ∧ Below w.heap.size w w' := by
  have R0 := Lib.hid h
  have HF0 := Lib.hid hF
  clear h hF
  go_enter Try.func8, Try.ntmps8
  go_wp2_with fail
  refine (begun_c w).mono ?_
  rintro e w1 ⟨rfl, b1⟩
  have R1 := Lib.hid (R0.out.past b1)
  have BS := Lib.hid b1
  clear b1 R0
  go_wp2_with fail
  refine (of_c w1 A c n l (R1.out.more BS.out.size)).mono ?_
  rintro e w2 ⟨A1, c1, A2, c2, m, rfl, hm, hL, r1, r2, b2⟩
  have HF := Lib.hid (HF0.out.take 12)
  generalize l.take 12 = L at *
  have RA := Lib.hid r1.tight
  have RB := Lib.hid r2
  have BT := Lib.hid (BS.out.trans (b2.mono BS.out.size))
  clear r1 r2 R1 HF0
  clear RB
  rcases (by omega : a0 < 1 ∨ ¬ a0 < 1 ∧ 15 < a0 ∨ ¬ a0 < 1 ∧ ¬ 15 < a0) with j | ⟨j, j'⟩ | ⟨j, j'⟩
  · go_wp2_with fail
    go_ret
    exact ⟨rfl, BT.out⟩
  · go_wp2_with fail
    go_ret
    exact ⟨rfl, BT.out⟩
  · have JJ := Lib.hid (show 1 ≤ a0 ∧ a0 ≤ 15 by omega)
    go_wp2_with fail
    refine (cMost_c w2 A1 c1 m L RA.out.tight (by omega) a0).mono ?_
    rintro e v1 ⟨lo, hi, ok, rfl, bv1, hM⟩
    unfold rg
    have HM := Lib.hid hM
    clear hM
    have av1 := (Below.refl v1.heap.size v1).alloc (Nat.le_refl _) (.cells #[.int .i64 lo, .int .i64 hi] 28)
    have bbv1 := bv1.trans (av1.mono bv1.size)
    have RA := Lib.hid (RA.out.past bbv1)
    have BT := Lib.hid (BT.out.trans (bbv1.mono BT.out.size))
    have K1 := Lib.hid (Blk.new v1 #[.int .i64 lo, .int .i64 hi] 28)
    go_wp2_with fail
    clear bbv1 av1 bv1
    generalize v1.alloc (.cells #[.int .i64 lo, .int .i64 hi] 28) = u1 at *
    generalize v1.heap.size = g1 at *
    refine (cMost_c u1 A1 c1 m L RA.out.tight (by omega) (a0 + 1)).mono ?_
    rintro e v2 ⟨lo2, hi2, ok2, rfl, bv2, hM2⟩
    unfold rg
    have HM2 := Lib.hid hM2
    clear hM2
    have av2 := (Below.refl v2.heap.size v2).alloc (Nat.le_refl _) (.cells #[.int .i64 lo2, .int .i64 hi2] 28)
    have bbv2 := bv2.trans (av2.mono bv2.size)
    have RA := Lib.hid (RA.out.past bbv2)
    have K1 := Lib.hid (K1.out.past bbv2)
    have BT := Lib.hid (BT.out.trans (bbv2.mono BT.out.size))
    have K2 := Lib.hid (Blk.new v2 #[.int .i64 lo2, .int .i64 hi2] 28)
    go_wp2_with fail
    clear bbv2 av2 bv2
    generalize v2.alloc (.cells #[.int .i64 lo2, .int .i64 hi2] 28) = u2 at *
    generalize v2.heap.size = g2 at *
    refine (cBest_c u2 A1 c1 m L RA.out.tight (by omega) HF.out).mono ?_
    rintro e v3 ⟨blo, bhi, k, rfl, bv3, hk, hB⟩
    unfold rg
    have HB := Lib.hid hB
    clear hB
    have RA := Lib.hid (RA.out.past bv3)
    have K1 := Lib.hid (K1.out.past bv3)
    have K2 := Lib.hid (K2.out.past bv3)
    have BT := Lib.hid (BT.out.trans (bv3.mono BT.out.size))
    clear bv3
    have E1 := Lib.hid (most_ok HM.out HB.out.low JJ.out.1)
    have E2 := Lib.hid (most_ok HM2.out HB.out.low (by have := JJ.out.1; omega))
    have al := (Below.refl v3.heap.size v3).alloc (Nat.le_refl _) (.cells #[.int .i64 blo, .int .i64 bhi] 28)
    have RA := Lib.hid (RA.out.past al)
    have K1 := Lib.hid (K1.out.past al)
    have K2 := Lib.hid (K2.out.past al)
    have BT := Lib.hid (BT.out.trans (al.mono BT.out.size))
    clear al
    go_upto_region 10 with fail
    generalize v3.alloc (.cells #[.int .i64 blo, .int .i64 bhi] 28) = x1 at *
    generalize v3.heap.size = g9 at *
    cases ok
    · have jk := of_decide_eq_false E1.out.symm
      have e2 : ok2 = false := by rw [E2.out]; exact decide_eq_false (by omega)
      subst e2
      go_wp2_with fail
      go_ret
      exact ⟨rfl, BT.out⟩
    · have jk := of_decide_eq_true E1.out.symm
      obtain ⟨-, y1, y2, y3⟩ := HM.out.yes rfl
      have Y3 := Lib.hid y3
      obtain ⟨p1, hp1⟩ : ∃ p, cnt L lo = p := ⟨_, rfl⟩
      obtain ⟨p2, hp2⟩ : ∃ p, cnt L hi = p := ⟨_, rfl⟩
      obtain ⟨p3, hp3⟩ : ∃ p, cnt L a1 = p := ⟨_, rfl⟩
      rw [hp1] at y1
      rw [hp2] at y2
      have P1 := Lib.hid hp1
      have P2 := Lib.hid hp2
      have P3 := Lib.hid hp3
      clear y3 hp1 hp2 hp3
      have d10 := K1.out.cell (i := 0) rfl
      have d11 := K1.out.cell (i := 1) rfl
      have d20 := K2.out.cell (i := 0) rfl
      have d21 := K2.out.cell (i := 1) rfl
      cases ok2
      · skip
        rcases (by omega : lo ≤ a1 ∧ a1 ≤ hi ∨ ¬ lo ≤ a1 ∨ lo ≤ a1 ∧ ¬ a1 ≤ hi) with ⟨i1, i2⟩ | i1 | ⟨i1, i2⟩
        · skip
          go_wp2_with fail
          refine (cCount_c x1 A1 c1 m L RA.out.tight (by omega) (lo)).mono ?_
          rw [P1.out]
          rintro e v111 ⟨rfl, bv111⟩
          have RA := Lib.hid (RA.out.past bv111)
          have K1 := Lib.hid (K1.out.past bv111)
          have K2 := Lib.hid (K2.out.past bv111)
          have BT := Lib.hid (BT.out.trans (bv111.mono BT.out.size))
          clear bv111
          have d10 := K1.out.cell (i := 0) rfl
          have d11 := K1.out.cell (i := 1) rfl
          go_wp2_with fail
          refine (cCount_c v111 A1 c1 m L RA.out.tight (by omega) (hi)).mono ?_
          rw [P2.out]
          rintro e v112 ⟨rfl, bv112⟩
          have RA := Lib.hid (RA.out.past bv112)
          have K1 := Lib.hid (K1.out.past bv112)
          have K2 := Lib.hid (K2.out.past bv112)
          have BT := Lib.hid (BT.out.trans (bv112.mono BT.out.size))
          clear bv112
          have d10 := K1.out.cell (i := 0) rfl
          have d11 := K1.out.cell (i := 1) rfl
          go_wp2_with fail
          go_ret
          exact ⟨rfl, BT.out⟩
        · skip
          have p3n : ¬ a0 ≤ (p3 : Int) := fun h => by have := Y3.out a1 (by rw [P3.out]; exact h); omega
          have p3l : (p3 : Int) < a0 := by omega
          clear p3n
          go_wp2_with fail
          refine (cCount_c x1 A1 c1 m L RA.out.tight (by omega) (lo)).mono ?_
          rw [P1.out]
          rintro e v121 ⟨rfl, bv121⟩
          have RA := Lib.hid (RA.out.past bv121)
          have K1 := Lib.hid (K1.out.past bv121)
          have K2 := Lib.hid (K2.out.past bv121)
          have BT := Lib.hid (BT.out.trans (bv121.mono BT.out.size))
          clear bv121
          have d10 := K1.out.cell (i := 0) rfl
          have d11 := K1.out.cell (i := 1) rfl
          go_wp2_with fail
          refine (cCount_c v121 A1 c1 m L RA.out.tight (by omega) (hi)).mono ?_
          rw [P2.out]
          rintro e v122 ⟨rfl, bv122⟩
          have RA := Lib.hid (RA.out.past bv122)
          have K1 := Lib.hid (K1.out.past bv122)
          have K2 := Lib.hid (K2.out.past bv122)
          have BT := Lib.hid (BT.out.trans (bv122.mono BT.out.size))
          clear bv122
          have d10 := K1.out.cell (i := 0) rfl
          have d11 := K1.out.cell (i := 1) rfl
          go_wp2_with fail
          refine (cCount_c v122 A1 c1 m L RA.out.tight (by omega) (a1)).mono ?_
          rw [P3.out]
          rintro e v123 ⟨rfl, bv123⟩
          have RA := Lib.hid (RA.out.past bv123)
          have K1 := Lib.hid (K1.out.past bv123)
          have K2 := Lib.hid (K2.out.past bv123)
          have BT := Lib.hid (BT.out.trans (bv123.mono BT.out.size))
          clear bv123
          go_wp2_with fail
          go_ret
          exact ⟨rfl, BT.out⟩
        · skip
          have p3n : ¬ a0 ≤ (p3 : Int) := fun h => by have := Y3.out a1 (by rw [P3.out]; exact h); omega
          have p3l : (p3 : Int) < a0 := by omega
          clear p3n
          go_wp2_with fail
          refine (cCount_c x1 A1 c1 m L RA.out.tight (by omega) (lo)).mono ?_
          rw [P1.out]
          rintro e v131 ⟨rfl, bv131⟩
          have RA := Lib.hid (RA.out.past bv131)
          have K1 := Lib.hid (K1.out.past bv131)
          have K2 := Lib.hid (K2.out.past bv131)
          have BT := Lib.hid (BT.out.trans (bv131.mono BT.out.size))
          clear bv131
          have d10 := K1.out.cell (i := 0) rfl
          have d11 := K1.out.cell (i := 1) rfl
          go_wp2_with fail
          refine (cCount_c v131 A1 c1 m L RA.out.tight (by omega) (hi)).mono ?_
          rw [P2.out]
          rintro e v132 ⟨rfl, bv132⟩
          have RA := Lib.hid (RA.out.past bv132)
          have K1 := Lib.hid (K1.out.past bv132)
          have K2 := Lib.hid (K2.out.past bv132)
          have BT := Lib.hid (BT.out.trans (bv132.mono BT.out.size))
          clear bv132
          have d10 := K1.out.cell (i := 0) rfl
          have d11 := K1.out.cell (i := 1) rfl
          go_wp2_with fail
          refine (cCount_c v132 A1 c1 m L RA.out.tight (by omega) (a1)).mono ?_
          rw [P3.out]
          rintro e v133 ⟨rfl, bv133⟩
          have RA := Lib.hid (RA.out.past bv133)
          have K1 := Lib.hid (K1.out.past bv133)
          have K2 := Lib.hid (K2.out.past bv133)
          have BT := Lib.hid (BT.out.trans (bv133.mono BT.out.size))
          clear bv133
          go_wp2_with fail
          go_ret
          exact ⟨rfl, BT.out⟩
      · skip
        obtain ⟨-, z1, z2, z3⟩ := HM2.out.yes rfl
        have q1 : ¬ lo2 < lo := by have := (Y3.out lo2 (by omega)).1; omega
        have q2 : ¬ hi < hi2 := by have := (Y3.out hi2 (by omega)).2; omega
        clear z1 z2 z3
        rcases (by omega : lo ≤ a1 ∧ a1 ≤ hi ∨ ¬ lo ≤ a1 ∨ lo ≤ a1 ∧ ¬ a1 ≤ hi) with ⟨i1, i2⟩ | i1 | ⟨i1, i2⟩
        · skip
          go_wp2_with fail
          refine (cCount_c x1 A1 c1 m L RA.out.tight (by omega) (lo)).mono ?_
          rw [P1.out]
          rintro e v141 ⟨rfl, bv141⟩
          have RA := Lib.hid (RA.out.past bv141)
          have K1 := Lib.hid (K1.out.past bv141)
          have K2 := Lib.hid (K2.out.past bv141)
          have BT := Lib.hid (BT.out.trans (bv141.mono BT.out.size))
          clear bv141
          have d10 := K1.out.cell (i := 0) rfl
          have d11 := K1.out.cell (i := 1) rfl
          go_wp2_with fail
          refine (cCount_c v141 A1 c1 m L RA.out.tight (by omega) (hi)).mono ?_
          rw [P2.out]
          rintro e v142 ⟨rfl, bv142⟩
          have RA := Lib.hid (RA.out.past bv142)
          have K1 := Lib.hid (K1.out.past bv142)
          have K2 := Lib.hid (K2.out.past bv142)
          have BT := Lib.hid (BT.out.trans (bv142.mono BT.out.size))
          clear bv142
          have d10 := K1.out.cell (i := 0) rfl
          have d11 := K1.out.cell (i := 1) rfl
          go_wp2_with fail
          go_ret
          exact ⟨rfl, BT.out⟩
        · skip
          have p3n : ¬ a0 ≤ (p3 : Int) := fun h => by have := Y3.out a1 (by rw [P3.out]; exact h); omega
          have p3l : (p3 : Int) < a0 := by omega
          clear p3n
          go_wp2_with fail
          refine (cCount_c x1 A1 c1 m L RA.out.tight (by omega) (lo)).mono ?_
          rw [P1.out]
          rintro e v151 ⟨rfl, bv151⟩
          have RA := Lib.hid (RA.out.past bv151)
          have K1 := Lib.hid (K1.out.past bv151)
          have K2 := Lib.hid (K2.out.past bv151)
          have BT := Lib.hid (BT.out.trans (bv151.mono BT.out.size))
          clear bv151
          have d10 := K1.out.cell (i := 0) rfl
          have d11 := K1.out.cell (i := 1) rfl
          go_wp2_with fail
          refine (cCount_c v151 A1 c1 m L RA.out.tight (by omega) (hi)).mono ?_
          rw [P2.out]
          rintro e v152 ⟨rfl, bv152⟩
          have RA := Lib.hid (RA.out.past bv152)
          have K1 := Lib.hid (K1.out.past bv152)
          have K2 := Lib.hid (K2.out.past bv152)
          have BT := Lib.hid (BT.out.trans (bv152.mono BT.out.size))
          clear bv152
          have d10 := K1.out.cell (i := 0) rfl
          have d11 := K1.out.cell (i := 1) rfl
          go_wp2_with fail
          refine (cCount_c v152 A1 c1 m L RA.out.tight (by omega) (a1)).mono ?_
          rw [P3.out]
          rintro e v153 ⟨rfl, bv153⟩
          have RA := Lib.hid (RA.out.past bv153)
          have K1 := Lib.hid (K1.out.past bv153)
          have K2 := Lib.hid (K2.out.past bv153)
          have BT := Lib.hid (BT.out.trans (bv153.mono BT.out.size))
          clear bv153
          go_wp2_with fail
          go_ret
          exact ⟨rfl, BT.out⟩
        · skip
          have p3n : ¬ a0 ≤ (p3 : Int) := fun h => by have := Y3.out a1 (by rw [P3.out]; exact h); omega
          have p3l : (p3 : Int) < a0 := by omega
          clear p3n
          go_wp2_with fail
          refine (cCount_c x1 A1 c1 m L RA.out.tight (by omega) (lo)).mono ?_
          rw [P1.out]
          rintro e v161 ⟨rfl, bv161⟩
          have RA := Lib.hid (RA.out.past bv161)
          have K1 := Lib.hid (K1.out.past bv161)
          have K2 := Lib.hid (K2.out.past bv161)
          have BT := Lib.hid (BT.out.trans (bv161.mono BT.out.size))
          clear bv161
          have d10 := K1.out.cell (i := 0) rfl
          have d11 := K1.out.cell (i := 1) rfl
          go_wp2_with fail
          refine (cCount_c v161 A1 c1 m L RA.out.tight (by omega) (hi)).mono ?_
          rw [P2.out]
          rintro e v162 ⟨rfl, bv162⟩
          have RA := Lib.hid (RA.out.past bv162)
          have K1 := Lib.hid (K1.out.past bv162)
          have K2 := Lib.hid (K2.out.past bv162)
          have BT := Lib.hid (BT.out.trans (bv162.mono BT.out.size))
          clear bv162
          have d10 := K1.out.cell (i := 0) rfl
          have d11 := K1.out.cell (i := 1) rfl
          go_wp2_with fail
          refine (cCount_c v162 A1 c1 m L RA.out.tight (by omega) (a1)).mono ?_
          rw [P3.out]
          rintro e v163 ⟨rfl, bv163⟩
          have RA := Lib.hid (RA.out.past bv163)
          have K1 := Lib.hid (K1.out.past bv163)
          have K2 := Lib.hid (K2.out.past bv163)
          have BT := Lib.hid (BT.out.trans (bv163.mono BT.out.size))
          clear bv163
          go_wp2_with fail
          go_ret
          exact ⟨rfl, BT.out⟩
end Go.Proofs.Ytapfdceopbkcgaa
