/- The walk of TideAll. -/
import Derived.Test.YtdhiennncjeieaaTideC
import Derived.Test.YtdhiennncjeieaaFlat
import Derived.WalkSmall
namespace Go.Proofs.Ytdhiennncjeieaa
open Go.RowKit

/-- The clock at g and the document's own at g2 hold the same. -/
structure TS (w0 w : World) (g g2 : Nat) (now lag : Int) : Prop where
  cs : Cs w0 w g now lag
  rf : Rf w g2 now lag
  low : w0.heap.size ≤ g2
section
variable {w0 w w' w'' : World} {g g2 : Nat} {now lag now' lag' : Int}
theorem TS.past (h : TS w0 w g g2 now lag) (b : Below w.heap.size w w') : TS w0 w' g g2 now lag := ⟨h.cs.past b, Blk.past h.rf b, h.low⟩
theorem TS.ne (h : TS w0 w g g2 now lag) : g ≠ g2 := Blk.ne h.cs.td h.rf (by decide)
theorem TS.mid (h : TS w0 w g g2 now lag) (t : Touch [g] w w') : Rf w' g2 now lag := Blk.touch h.rf t (by simpa using fun e => h.ne e.symm)
theorem TS.both (h : TS w0 w g g2 now lag) (d : Td w' g now' lag') (t : Touch [g] w w') (d' : Rf w'' g2 now' lag') (t' : Touch [g2] w' w'') (hk : PTide.Ok now' lag') : TS w0 w'' g g2 now' lag' :=
  have b := bel_touch h.cs.bel t (by simpa using h.cs.own) h.cs.bel.size
  ⟨⟨bel_touch b t' (by simpa using h.low) b.size, h.cs.own, Blk.touch d t' (by simpa using h.ne), hk⟩, d', h.low⟩
end

set_option maxHeartbeats 8000000 in
set_option maxRecDepth 100000 in
theorem TideAll_w (w : World) (now : Int) (A : Option Addr) (n c : Nat) (xs : List Value) (h0 : Rd w w.heap.size A c 4 n xs) (hI : AllI xs) :
    Calls Try.prog 3 #[.int .i64 now, .slice A n c] w fun e w' => e = .returned (.bool true) ∧ Below w.heap.size w w' := by
  have HR := Lib.hid h0
  have HI := Lib.hid hI
  clear h0 hI
  rcases (by omega : now < 0 ∨ ¬ now < 0 ∧ 1099511627776 < now ∨ 0 ≤ now ∧ now ≤ 1099511627776) with q1 | ⟨q1, q2⟩ | ⟨q1, q2⟩
  · have HN := Lib.hid (PTide.new_out (a := now) (fun h => by omega))
    go_enter Try.func3, Try.ntmps3
    go_wp2_with fail
    refine (begun_c w).mono ?_
    rintro e w1 ⟨rfl, b1⟩
    go_wp2_with fail
    refine (new_c w1 now).mono ?_
    rintro e w2 ⟨rfl, d2, b2⟩
    have C2 := Cs.mk' b1 b2 d2 (PTide.new_ok now)
    rw [HN.out] at C2
    have S2 : Hid (TS w (w2.alloc (.cells #[.int .i64 0, .int .i64 0] 28)) w1.heap.size w2.heap.size 0 0) := Lib.hid
      ⟨C2.alloc _, Blk.new w2 #[.int .i64 0, .int .i64 0] _, C2.bel.size⟩
    clear d2 b1 b2 C2
    go_wp2_with fail
    generalize w1.heap.size = g at *
    generalize w2.heap.size = g2 at *
    generalize w2.alloc (.cells #[.int .i64 0, .int .i64 0] 28) = w3 at *
    clear HN
    go_loopw [8] (fun s8 wr => ∃ (i : Nat) (nw lg : Int), i ≤ n ∧ i ≤ 60 ∧ s8 = .int .i64 i ∧ Hid (TS w wr g g2 nw lg)) (fun s8 _ => n - (intOf s8).toNat)
    case atStart => exact ⟨0, _, _, by omega, by omega, rfl, S2⟩
    case round =>
      clear S2
      obtain ⟨i, nw, lg, hin, hi60, rfl, HS⟩ := hrel
      by_cases h1 : i < n
      · by_cases h2 : i < 60
        · obtain ⟨bo, oo, rfl, -, hc⟩ := (HR.out.below HS.out.cs.bel).flatI HI.out h1 (by omega)
          obtain ⟨kd, o0⟩ := hc 0 (by omega)
          obtain ⟨x, o1⟩ := hc 1 (by omega)
          obtain ⟨lo, o2⟩ := hc 2 (by omega)
          obtain ⟨hi, o3⟩ := hc 3 (by omega)
          rw [Nat.add_zero] at o0
          clear hc
          have hN := Lib.hid (Blk.new wr #[.int .i64 kd, .int .i64 x, .int .i64 lo, .int .i64 hi] 30)
          have HS1 := Lib.hid (HS.out.past ((Below.refl _ _).alloc (Nat.le_refl _) (.cells #[.int .i64 kd, .int .i64 x, .int .i64 lo, .int .i64 hi] 30)))
          go_wp2_with fail
          clear o0 o1 o2 o3 HS
          generalize wr.heap.size = gO at *
          generalize wr.alloc (.cells #[.int .i64 kd, .int .i64 x, .int .i64 lo, .int .i64 hi] 30) = w4 at *
          refine (now_c _ g _ _ HS1.out.cs.td).mono ?_
          rintro e w8 ⟨rfl, rfl⟩
          have q0 := Blk.cell hN.out (i := 0) rfl
          have q1 := Blk.cell hN.out (i := 1) rfl
          have q2 := Blk.cell hN.out (i := 2) rfl
          have q3 := Blk.cell hN.out (i := 3) rfl
          by_cases hk : kd = 0
          · subst hk
            have HK := Lib.hid (PTide.go_ok HS1.out.cs.ok x)
            go_wp2_with fail
            refine (go_c w4 g nw lg HS1.out.cs.td HS1.out.cs.ok x).mono ?_
            rintro e w5 ⟨rfl, d5, t5⟩
            have r5 := HS1.out.mid t5
            have O5 := Blk.touch hN.out t5 (by simpa using Blk.ne hN.out HS1.out.cs.td (by decide))
            have p1 := Blk.cell O5 (i := 1) rfl
            have p2 := Blk.cell O5 (i := 2) rfl
            have p3 := Blk.cell O5 (i := 3) rfl
            go_wp2_with fail
            refine (rGo_c w5 g2 nw lg r5 HS1.out.cs.ok x).mono ?_
            rintro e w6 ⟨rfl, d6, t6⟩
            have HS2 := Lib.hid (HS1.out.both d5 t5 d6 t6 HK.out.1)
            have hle := HK.out.2
            clear d5 t5 d6 t6 r5 O5 p1 p2 p3 HK HS1 hN q0 q1 q2 q3
            generalize PTide.goN nw lg x = nw' at *
            generalize PTide.goL lg x = lg' at *
            have c0 := Blk.cell HS2.out.rf (i := 0) rfl
            have c1 := Blk.cell HS2.out.rf (i := 1) rfl
            have hn : ∀ q, Calls Try.prog 10 #[.pointer (some ⟨g, 0, none⟩)] (w6.drewN q) fun e w' => e = .returned (.int .i64 nw') ∧ w' = w6.drewN q := fun q => (now_c (w6.drewN q) g nw' lg' HS2.out.cs.td).mono fun e w' h => ⟨h.1, h.2.symm⟩
            have hl : ∀ q, Calls Try.prog 15 #[.pointer (some ⟨g, 0, none⟩)] (w6.drewN q) fun e w' => e = .returned (.int .i64 lg') ∧ w' = w6.drewN q := fun q => (lag_c (w6.drewN q) g nw' lg' HS2.out.cs.td).mono fun e w' h => ⟨h.1, h.2.symm⟩
            have dlt : decide (nw' < nw) = false := decide_eq_false (by omega)
            go_wp2_with fail
            go_quiet (first | (go_at_call 10; refine Calls.quiet_of_same (hn _)) | (go_at_call 15; refine Calls.quiet_of_same (hl _)))
            go_wp2_with fail
            go_roundw
            case rel => exact ⟨i + 1, _, _, by omega, by omega, by go_num, Lib.hid (HS2.out.past (below_drewN (Below.refl _ _) _))⟩
            case measure => simp [intOf]; omega
          · have hk' : (kd == 0) = false := by simpa using hk
            have HK := Lib.hid (PTide.ri_ok HS1.out.cs.ok lo hi)
            go_wp2_with fail
            refine (right_c w4 g nw lg HS1.out.cs.td HS1.out.cs.ok lo hi).mono ?_
            rintro e w5 ⟨rfl, d5, t5⟩
            have r5 := HS1.out.mid t5
            have O5 := Blk.touch hN.out t5 (by simpa using Blk.ne hN.out HS1.out.cs.td (by decide))
            have p1 := Blk.cell O5 (i := 1) rfl
            have p2 := Blk.cell O5 (i := 2) rfl
            have p3 := Blk.cell O5 (i := 3) rfl
            go_wp2_with fail
            refine (rRight_c w5 g2 nw lg r5 HS1.out.cs.ok lo hi).mono ?_
            rintro e w6 ⟨rfl, d6, t6⟩
            have HS2 := Lib.hid (HS1.out.both d5 t5 d6 t6 HK.out.1)
            have hle := HK.out.2
            clear d5 t5 d6 t6 r5 O5 p1 p2 p3 HK HS1 hN q0 q1 q2 q3
            generalize PTide.riN nw lo hi = nw' at *
            generalize PTide.riL nw lg lo hi = lg' at *
            have c0 := Blk.cell HS2.out.rf (i := 0) rfl
            have c1 := Blk.cell HS2.out.rf (i := 1) rfl
            have hn : ∀ q, Calls Try.prog 10 #[.pointer (some ⟨g, 0, none⟩)] (w6.drewN q) fun e w' => e = .returned (.int .i64 nw') ∧ w' = w6.drewN q := fun q => (now_c (w6.drewN q) g nw' lg' HS2.out.cs.td).mono fun e w' h => ⟨h.1, h.2.symm⟩
            have hl : ∀ q, Calls Try.prog 15 #[.pointer (some ⟨g, 0, none⟩)] (w6.drewN q) fun e w' => e = .returned (.int .i64 lg') ∧ w' = w6.drewN q := fun q => (lag_c (w6.drewN q) g nw' lg' HS2.out.cs.td).mono fun e w' h => ⟨h.1, h.2.symm⟩
            have dlt : decide (nw' < nw) = false := decide_eq_false (by omega)
            go_wp2_with fail
            go_quiet (first | (go_at_call 10; refine Calls.quiet_of_same (hn _)) | (go_at_call 15; refine Calls.quiet_of_same (hl _)))
            go_wp2_with fail
            go_roundw
            case rel => exact ⟨i + 1, _, _, by omega, by omega, by go_num, Lib.hid (HS2.out.past (below_drewN (Below.refl _ _) _))⟩
            case measure => simp [intOf]; omega
        · go_wp2_with fail
          go_ret
          exact ⟨rfl, HS.out.cs.bel⟩
      · go_wp2_with fail
        go_ret
        exact ⟨rfl, HS.out.cs.bel⟩
  · have HN := Lib.hid (PTide.new_out (a := now) (fun h => by omega))
    go_enter Try.func3, Try.ntmps3
    go_wp2_with fail
    refine (begun_c w).mono ?_
    rintro e w1 ⟨rfl, b1⟩
    go_wp2_with fail
    refine (new_c w1 now).mono ?_
    rintro e w2 ⟨rfl, d2, b2⟩
    have C2 := Cs.mk' b1 b2 d2 (PTide.new_ok now)
    rw [HN.out] at C2
    have S2 : Hid (TS w (w2.alloc (.cells #[.int .i64 0, .int .i64 0] 28)) w1.heap.size w2.heap.size 0 0) := Lib.hid
      ⟨C2.alloc _, Blk.new w2 #[.int .i64 0, .int .i64 0] _, C2.bel.size⟩
    clear d2 b1 b2 C2
    go_wp2_with fail
    generalize w1.heap.size = g at *
    generalize w2.heap.size = g2 at *
    generalize w2.alloc (.cells #[.int .i64 0, .int .i64 0] 28) = w3 at *
    clear HN
    go_loopw [8] (fun s8 wr => ∃ (i : Nat) (nw lg : Int), i ≤ n ∧ i ≤ 60 ∧ s8 = .int .i64 i ∧ Hid (TS w wr g g2 nw lg)) (fun s8 _ => n - (intOf s8).toNat)
    case atStart => exact ⟨0, _, _, by omega, by omega, rfl, S2⟩
    case round =>
      clear S2
      obtain ⟨i, nw, lg, hin, hi60, rfl, HS⟩ := hrel
      by_cases h1 : i < n
      · by_cases h2 : i < 60
        · obtain ⟨bo, oo, rfl, -, hc⟩ := (HR.out.below HS.out.cs.bel).flatI HI.out h1 (by omega)
          obtain ⟨kd, o0⟩ := hc 0 (by omega)
          obtain ⟨x, o1⟩ := hc 1 (by omega)
          obtain ⟨lo, o2⟩ := hc 2 (by omega)
          obtain ⟨hi, o3⟩ := hc 3 (by omega)
          rw [Nat.add_zero] at o0
          clear hc
          have hN := Lib.hid (Blk.new wr #[.int .i64 kd, .int .i64 x, .int .i64 lo, .int .i64 hi] 30)
          have HS1 := Lib.hid (HS.out.past ((Below.refl _ _).alloc (Nat.le_refl _) (.cells #[.int .i64 kd, .int .i64 x, .int .i64 lo, .int .i64 hi] 30)))
          go_wp2_with fail
          clear o0 o1 o2 o3 HS
          generalize wr.heap.size = gO at *
          generalize wr.alloc (.cells #[.int .i64 kd, .int .i64 x, .int .i64 lo, .int .i64 hi] 30) = w4 at *
          refine (now_c _ g _ _ HS1.out.cs.td).mono ?_
          rintro e w8 ⟨rfl, rfl⟩
          have q0 := Blk.cell hN.out (i := 0) rfl
          have q1 := Blk.cell hN.out (i := 1) rfl
          have q2 := Blk.cell hN.out (i := 2) rfl
          have q3 := Blk.cell hN.out (i := 3) rfl
          by_cases hk : kd = 0
          · subst hk
            have HK := Lib.hid (PTide.go_ok HS1.out.cs.ok x)
            go_wp2_with fail
            refine (go_c w4 g nw lg HS1.out.cs.td HS1.out.cs.ok x).mono ?_
            rintro e w5 ⟨rfl, d5, t5⟩
            have r5 := HS1.out.mid t5
            have O5 := Blk.touch hN.out t5 (by simpa using Blk.ne hN.out HS1.out.cs.td (by decide))
            have p1 := Blk.cell O5 (i := 1) rfl
            have p2 := Blk.cell O5 (i := 2) rfl
            have p3 := Blk.cell O5 (i := 3) rfl
            go_wp2_with fail
            refine (rGo_c w5 g2 nw lg r5 HS1.out.cs.ok x).mono ?_
            rintro e w6 ⟨rfl, d6, t6⟩
            have HS2 := Lib.hid (HS1.out.both d5 t5 d6 t6 HK.out.1)
            have hle := HK.out.2
            clear d5 t5 d6 t6 r5 O5 p1 p2 p3 HK HS1 hN q0 q1 q2 q3
            generalize PTide.goN nw lg x = nw' at *
            generalize PTide.goL lg x = lg' at *
            have c0 := Blk.cell HS2.out.rf (i := 0) rfl
            have c1 := Blk.cell HS2.out.rf (i := 1) rfl
            have hn : ∀ q, Calls Try.prog 10 #[.pointer (some ⟨g, 0, none⟩)] (w6.drewN q) fun e w' => e = .returned (.int .i64 nw') ∧ w' = w6.drewN q := fun q => (now_c (w6.drewN q) g nw' lg' HS2.out.cs.td).mono fun e w' h => ⟨h.1, h.2.symm⟩
            have hl : ∀ q, Calls Try.prog 15 #[.pointer (some ⟨g, 0, none⟩)] (w6.drewN q) fun e w' => e = .returned (.int .i64 lg') ∧ w' = w6.drewN q := fun q => (lag_c (w6.drewN q) g nw' lg' HS2.out.cs.td).mono fun e w' h => ⟨h.1, h.2.symm⟩
            have dlt : decide (nw' < nw) = false := decide_eq_false (by omega)
            go_wp2_with fail
            go_quiet (first | (go_at_call 10; refine Calls.quiet_of_same (hn _)) | (go_at_call 15; refine Calls.quiet_of_same (hl _)))
            go_wp2_with fail
            go_roundw
            case rel => exact ⟨i + 1, _, _, by omega, by omega, by go_num, Lib.hid (HS2.out.past (below_drewN (Below.refl _ _) _))⟩
            case measure => simp [intOf]; omega
          · have hk' : (kd == 0) = false := by simpa using hk
            have HK := Lib.hid (PTide.ri_ok HS1.out.cs.ok lo hi)
            go_wp2_with fail
            refine (right_c w4 g nw lg HS1.out.cs.td HS1.out.cs.ok lo hi).mono ?_
            rintro e w5 ⟨rfl, d5, t5⟩
            have r5 := HS1.out.mid t5
            have O5 := Blk.touch hN.out t5 (by simpa using Blk.ne hN.out HS1.out.cs.td (by decide))
            have p1 := Blk.cell O5 (i := 1) rfl
            have p2 := Blk.cell O5 (i := 2) rfl
            have p3 := Blk.cell O5 (i := 3) rfl
            go_wp2_with fail
            refine (rRight_c w5 g2 nw lg r5 HS1.out.cs.ok lo hi).mono ?_
            rintro e w6 ⟨rfl, d6, t6⟩
            have HS2 := Lib.hid (HS1.out.both d5 t5 d6 t6 HK.out.1)
            have hle := HK.out.2
            clear d5 t5 d6 t6 r5 O5 p1 p2 p3 HK HS1 hN q0 q1 q2 q3
            generalize PTide.riN nw lo hi = nw' at *
            generalize PTide.riL nw lg lo hi = lg' at *
            have c0 := Blk.cell HS2.out.rf (i := 0) rfl
            have c1 := Blk.cell HS2.out.rf (i := 1) rfl
            have hn : ∀ q, Calls Try.prog 10 #[.pointer (some ⟨g, 0, none⟩)] (w6.drewN q) fun e w' => e = .returned (.int .i64 nw') ∧ w' = w6.drewN q := fun q => (now_c (w6.drewN q) g nw' lg' HS2.out.cs.td).mono fun e w' h => ⟨h.1, h.2.symm⟩
            have hl : ∀ q, Calls Try.prog 15 #[.pointer (some ⟨g, 0, none⟩)] (w6.drewN q) fun e w' => e = .returned (.int .i64 lg') ∧ w' = w6.drewN q := fun q => (lag_c (w6.drewN q) g nw' lg' HS2.out.cs.td).mono fun e w' h => ⟨h.1, h.2.symm⟩
            have dlt : decide (nw' < nw) = false := decide_eq_false (by omega)
            go_wp2_with fail
            go_quiet (first | (go_at_call 10; refine Calls.quiet_of_same (hn _)) | (go_at_call 15; refine Calls.quiet_of_same (hl _)))
            go_wp2_with fail
            go_roundw
            case rel => exact ⟨i + 1, _, _, by omega, by omega, by go_num, Lib.hid (HS2.out.past (below_drewN (Below.refl _ _) _))⟩
            case measure => simp [intOf]; omega
        · go_wp2_with fail
          go_ret
          exact ⟨rfl, HS.out.cs.bel⟩
      · go_wp2_with fail
        go_ret
        exact ⟨rfl, HS.out.cs.bel⟩
  · have HN := Lib.hid (PTide.new_in (a := now) ⟨q1, q2⟩)
    go_enter Try.func3, Try.ntmps3
    go_wp2_with fail
    refine (begun_c w).mono ?_
    rintro e w1 ⟨rfl, b1⟩
    go_wp2_with fail
    refine (new_c w1 now).mono ?_
    rintro e w2 ⟨rfl, d2, b2⟩
    have C2 := Cs.mk' b1 b2 d2 (PTide.new_ok now)
    rw [HN.out] at C2
    have S2 : Hid (TS w (w2.alloc (.cells #[.int .i64 now, .int .i64 0] 28)) w1.heap.size w2.heap.size now 0) := Lib.hid
      ⟨C2.alloc _, Blk.new w2 #[.int .i64 now, .int .i64 0] _, C2.bel.size⟩
    clear d2 b1 b2 C2
    go_wp2_with fail
    generalize w1.heap.size = g at *
    generalize w2.heap.size = g2 at *
    generalize w2.alloc (.cells #[.int .i64 now, .int .i64 0] 28) = w3 at *
    clear HN
    go_loopw [8] (fun s8 wr => ∃ (i : Nat) (nw lg : Int), i ≤ n ∧ i ≤ 60 ∧ s8 = .int .i64 i ∧ Hid (TS w wr g g2 nw lg)) (fun s8 _ => n - (intOf s8).toNat)
    case atStart => exact ⟨0, _, _, by omega, by omega, rfl, S2⟩
    case round =>
      clear S2
      obtain ⟨i, nw, lg, hin, hi60, rfl, HS⟩ := hrel
      by_cases h1 : i < n
      · by_cases h2 : i < 60
        · obtain ⟨bo, oo, rfl, -, hc⟩ := (HR.out.below HS.out.cs.bel).flatI HI.out h1 (by omega)
          obtain ⟨kd, o0⟩ := hc 0 (by omega)
          obtain ⟨x, o1⟩ := hc 1 (by omega)
          obtain ⟨lo, o2⟩ := hc 2 (by omega)
          obtain ⟨hi, o3⟩ := hc 3 (by omega)
          rw [Nat.add_zero] at o0
          clear hc
          have hN := Lib.hid (Blk.new wr #[.int .i64 kd, .int .i64 x, .int .i64 lo, .int .i64 hi] 30)
          have HS1 := Lib.hid (HS.out.past ((Below.refl _ _).alloc (Nat.le_refl _) (.cells #[.int .i64 kd, .int .i64 x, .int .i64 lo, .int .i64 hi] 30)))
          go_wp2_with fail
          clear o0 o1 o2 o3 HS
          generalize wr.heap.size = gO at *
          generalize wr.alloc (.cells #[.int .i64 kd, .int .i64 x, .int .i64 lo, .int .i64 hi] 30) = w4 at *
          refine (now_c _ g _ _ HS1.out.cs.td).mono ?_
          rintro e w8 ⟨rfl, rfl⟩
          have q0 := Blk.cell hN.out (i := 0) rfl
          have q1 := Blk.cell hN.out (i := 1) rfl
          have q2 := Blk.cell hN.out (i := 2) rfl
          have q3 := Blk.cell hN.out (i := 3) rfl
          by_cases hk : kd = 0
          · subst hk
            have HK := Lib.hid (PTide.go_ok HS1.out.cs.ok x)
            go_wp2_with fail
            refine (go_c w4 g nw lg HS1.out.cs.td HS1.out.cs.ok x).mono ?_
            rintro e w5 ⟨rfl, d5, t5⟩
            have r5 := HS1.out.mid t5
            have O5 := Blk.touch hN.out t5 (by simpa using Blk.ne hN.out HS1.out.cs.td (by decide))
            have p1 := Blk.cell O5 (i := 1) rfl
            have p2 := Blk.cell O5 (i := 2) rfl
            have p3 := Blk.cell O5 (i := 3) rfl
            go_wp2_with fail
            refine (rGo_c w5 g2 nw lg r5 HS1.out.cs.ok x).mono ?_
            rintro e w6 ⟨rfl, d6, t6⟩
            have HS2 := Lib.hid (HS1.out.both d5 t5 d6 t6 HK.out.1)
            have hle := HK.out.2
            clear d5 t5 d6 t6 r5 O5 p1 p2 p3 HK HS1 hN q0 q1 q2 q3
            generalize PTide.goN nw lg x = nw' at *
            generalize PTide.goL lg x = lg' at *
            have c0 := Blk.cell HS2.out.rf (i := 0) rfl
            have c1 := Blk.cell HS2.out.rf (i := 1) rfl
            have hn : ∀ q, Calls Try.prog 10 #[.pointer (some ⟨g, 0, none⟩)] (w6.drewN q) fun e w' => e = .returned (.int .i64 nw') ∧ w' = w6.drewN q := fun q => (now_c (w6.drewN q) g nw' lg' HS2.out.cs.td).mono fun e w' h => ⟨h.1, h.2.symm⟩
            have hl : ∀ q, Calls Try.prog 15 #[.pointer (some ⟨g, 0, none⟩)] (w6.drewN q) fun e w' => e = .returned (.int .i64 lg') ∧ w' = w6.drewN q := fun q => (lag_c (w6.drewN q) g nw' lg' HS2.out.cs.td).mono fun e w' h => ⟨h.1, h.2.symm⟩
            have dlt : decide (nw' < nw) = false := decide_eq_false (by omega)
            go_wp2_with fail
            go_quiet (first | (go_at_call 10; refine Calls.quiet_of_same (hn _)) | (go_at_call 15; refine Calls.quiet_of_same (hl _)))
            go_wp2_with fail
            go_roundw
            case rel => exact ⟨i + 1, _, _, by omega, by omega, by go_num, Lib.hid (HS2.out.past (below_drewN (Below.refl _ _) _))⟩
            case measure => simp [intOf]; omega
          · have hk' : (kd == 0) = false := by simpa using hk
            have HK := Lib.hid (PTide.ri_ok HS1.out.cs.ok lo hi)
            go_wp2_with fail
            refine (right_c w4 g nw lg HS1.out.cs.td HS1.out.cs.ok lo hi).mono ?_
            rintro e w5 ⟨rfl, d5, t5⟩
            have r5 := HS1.out.mid t5
            have O5 := Blk.touch hN.out t5 (by simpa using Blk.ne hN.out HS1.out.cs.td (by decide))
            have p1 := Blk.cell O5 (i := 1) rfl
            have p2 := Blk.cell O5 (i := 2) rfl
            have p3 := Blk.cell O5 (i := 3) rfl
            go_wp2_with fail
            refine (rRight_c w5 g2 nw lg r5 HS1.out.cs.ok lo hi).mono ?_
            rintro e w6 ⟨rfl, d6, t6⟩
            have HS2 := Lib.hid (HS1.out.both d5 t5 d6 t6 HK.out.1)
            have hle := HK.out.2
            clear d5 t5 d6 t6 r5 O5 p1 p2 p3 HK HS1 hN q0 q1 q2 q3
            generalize PTide.riN nw lo hi = nw' at *
            generalize PTide.riL nw lg lo hi = lg' at *
            have c0 := Blk.cell HS2.out.rf (i := 0) rfl
            have c1 := Blk.cell HS2.out.rf (i := 1) rfl
            have hn : ∀ q, Calls Try.prog 10 #[.pointer (some ⟨g, 0, none⟩)] (w6.drewN q) fun e w' => e = .returned (.int .i64 nw') ∧ w' = w6.drewN q := fun q => (now_c (w6.drewN q) g nw' lg' HS2.out.cs.td).mono fun e w' h => ⟨h.1, h.2.symm⟩
            have hl : ∀ q, Calls Try.prog 15 #[.pointer (some ⟨g, 0, none⟩)] (w6.drewN q) fun e w' => e = .returned (.int .i64 lg') ∧ w' = w6.drewN q := fun q => (lag_c (w6.drewN q) g nw' lg' HS2.out.cs.td).mono fun e w' h => ⟨h.1, h.2.symm⟩
            have dlt : decide (nw' < nw) = false := decide_eq_false (by omega)
            go_wp2_with fail
            go_quiet (first | (go_at_call 10; refine Calls.quiet_of_same (hn _)) | (go_at_call 15; refine Calls.quiet_of_same (hl _)))
            go_wp2_with fail
            go_roundw
            case rel => exact ⟨i + 1, _, _, by omega, by omega, by go_num, Lib.hid (HS2.out.past (below_drewN (Below.refl _ _) _))⟩
            case measure => simp [intOf]; omega
        · go_wp2_with fail
          go_ret
          exact ⟨rfl, HS.out.cs.bel⟩
      · go_wp2_with fail
        go_ret
        exact ⟨rfl, HS.out.cs.bel⟩
end Go.Proofs.Ytdhiennncjeieaa
