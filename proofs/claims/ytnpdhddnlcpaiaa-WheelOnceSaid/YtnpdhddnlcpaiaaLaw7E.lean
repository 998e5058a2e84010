/- The walk of WheelOnce. -/
import Derived.Test.YtnpdhddnlcpaiaaLaw7D
namespace Go.Proofs.Ytnpdhddnlcpaiaa
open Go.RowKit

theorem bool_info : (Try.prog.info? 4).map (fun i => (i.zero, i.size, i.bytes)) = some (some (.bool false), 1, 1) := by kernel_rfl
theorem set_in {T : List (Int × Bool)} {k : Nat} {m : Int} (hk : k < 64) (h1 : 0 ≤ m) (h2 : m ≤ 1099511627776) : PWheel.setE k m = 0 ∧ PWheel.setT T k m = T.set k (m, true) := by
  have gi : PWheel.isI k = true := by simp [PWheel.isI]; omega
  have gt : PWheel.isT m = true := by simp [PWheel.isT]; omega
  exact ⟨PWheel.setE_in gi gt, by rw [PWheel.setT_in gi gt, Int.toNat_natCast]⟩

set_option maxHeartbeats 3200000 in
set_option maxRecDepth 100000 in
theorem WheelOnce_w (w : World) (A : Option Addr) (c p : Nat) (l : List Int) (h0 : Rd w w.heap.size A c 1 p (is l)) (A2 : Option Addr) (c2 q : Nat) (s : List Int) (h2 : Rd w w.heap.size A2 c2 1 q (is s)) :
    Calls Try.prog 4 #[.slice A p c, .slice A2 q c2] w fun e w' => e = .returned (.bool true) ∧ Below w.heap.size w w' := by
  obtain ⟨i0, hi, hz0, hz1, hz2⟩ := info_parts bool_info
  have HR := Lib.hid (And.intro h0 h2)
  clear h0 h2
  obtain ⟨a, ha⟩ : ∃ a : Nat → Int, ∀ j, a j = bits .and .i64 (l.getD j 0) 1023 := ⟨_, fun _ => rfl⟩
  have ha0 : ∀ j, 0 ≤ a j ∧ a j ≤ 1023 := fun j => by rw [ha j]; exact and_low _ 1023 (by decide)
  have HA := Lib.hid (And.intro ha ha0)
  clear ha ha0
  go_enter Try.func4, Try.ntmps4
  go_wp2_with fail
  refine (begun_c w).mono ?_
  rintro e w1 ⟨rfl, b1⟩
  go_wp2_with fail
  refine (new_c w1 0).mono ?_
  rw [show PWheel.newT 0 = 0 from rfl]
  rintro e w2 ⟨rfl, W2, b2⟩
  have B2 := Lib.hid (b1.trans (b2.mono b1.size))
  have hg1 : w.heap.size ≤ w1.heap.size := b1.size
  have W2' := Lib.hid W2
  clear b1 b2 W2
  go_wp2_with (with_reducible show wpList _ _ _ ((⟨some 23, _, _, _, _, _⟩ : Oper) :: _) _ _; go_must (refine wpList_min rfl (.tmp 22) (.const (.int .i64 30)) _ rfl p 30 rfl rfl ?_))
  obtain ⟨n, hn⟩ : ∃ n, n = min p 30 := ⟨_, rfl⟩
  rw [← hn]
  have hnp : n ≤ p := by omega
  have hn30 : n ≤ 30 := by omega
  clear hn
  go_loopw [8] (fun s8 wr => ∃ (k : Nat) (T : List (Int × Bool)), k ≤ n ∧ s8 = .int .i64 k ∧ Hid (HasT a k false 0 T) ∧ Hid (Wl wr w1.heap.size 0 T) ∧ Hid (Below w.heap.size w wr)) (fun s8 _ => n - (intOf s8).toNat)
  case atStart => exact ⟨0, _, by omega, rfl, Lib.hid (HasT.start a), W2', B2⟩
  case round =>
    clear W2' B2
    obtain ⟨k, T, hk, rfl, hT, WT, BT⟩ := hrel
    by_cases hkn : k < n
    · obtain ⟨b, o, x, rfl, c0, -, hx⟩ := (HR.out.1.below BT.out).int (i := k) (by omega)
      have hb : bits .and .i64 x 1023 = a k := by rw [hx]; exact (HA.out.1 k).symm
      have e12 := set_in (T := T) (k := k) (m := a k) (by omega) (HA.out.2 k).1 (by have := (HA.out.2 k).2; omega)
      have hT2 := Lib.hid (hT.out.more WT.out.1 (by omega))
      obtain ⟨m, hm⟩ : ∃ m, m = a k := ⟨_, rfl⟩
      rw [← hm] at hb e12 hT2
      have HE := Lib.hid e12
      have HM := Lib.hid hm
      have hkp : k < p := by omega
      clear e12 hm hx
      go_wp2_with fail
      refine (set_c wr _ _ _ WT.out k m).mono ?_
      rw [HE.out.1, HE.out.2]
      rintro e w3 ⟨rfl, W3, t3⟩
      have B3 := Lib.hid (BT.out.trans (t3.below (by simp; exact hg1) BT.out.size))
      have W3' := Lib.hid W3
      clear c0 t3 W3 hb
      go_wp2_with fail
      go_roundw
      case rel => exact ⟨k + 1, _, by omega, by go_num, hT2, W3', B3⟩
      case measure => simp [intOf]; omega
    · obtain rfl : k = n := by omega
      have hgs : w.heap.size ≤ wr.heap.size := BT.out.size
      go_wp2_with (at_make; go_must (refine wpList_make_full _ rfl _ _ 40 rfl w.heap.size 4 i0 (.bool false) 1 Try.underlying40 hi hz0 hz1 _ _ _ _ k rfl rfl rfl rfl ?b2 ?b3 hgs ?_))
      case b2 => rw [hz2]; omega
      case b3 => unfold maxLen; omega
      intro w4 o4 g4
      have o4 : w4.ownsRow w.heap.size 4 1 (.slice (some ⟨wr.heap.size, 0, none⟩) k k) k (bo (List.replicate k false)) := by simpa [toList_madeCells_one, bo, Value.cells] using o4
      have W4 := Lib.hid (WT.out.touch (Touch.of_grown_none (S := []) g4 (fun _ h => by cases h)) (by simp))
      have B4 := Lib.hid (BT.out.grown g4 hgs (fun _ h => by cases h))
      have O4 := Lib.hid o4
      generalize wr.heap.size = gs at *
      clear o4 g4 WT BT
      go_wp2_with fail
      go_loopw [9, 11] (fun s9 s11 wr => ∃ (i : Nat) (now : Int) (T : List (Int × Bool)) (L : List Bool), i ≤ q ∧ i ≤ 40 ∧ s11 = .int .i64 i ∧ s9 = .int .i64 now ∧ 0 ≤ now ∧ now ≤ 255 * i ∧ Hid (HasT a k (decide (0 < i)) now T) ∧ Hid (SeenIs a k (decide (0 < i)) now L) ∧ Hid (Wl wr w1.heap.size now T) ∧ Hid (wr.ownsRow w.heap.size 4 1 (.slice (some ⟨gs, 0, none⟩) k k) k (bo L)) ∧ Hid (Below w.heap.size w wr)) (fun _ s11 _ => q - (intOf s11).toNat)
      case atStart => exact ⟨0, 0, T, _, by omega, by omega, rfl, rfl, by omega, by omega, hT, Lib.hid (SeenIs.start a k), W4, O4, B4⟩
      case round =>
        clear W4 O4 B4 hT
        obtain ⟨i, now, T, L, hiq, hi40, rfl, rfl, n0, n1, hT, hL, WT, OS, BT⟩ := hrel
        by_cases hi1 : i < q
        · by_cases hi2 : i < 40
          · obtain ⟨b, o, y, rfl, c0, -, -⟩ := (HR.out.2.below BT.out).int (i := i) (by omega)
            obtain ⟨m, hm⟩ : ∃ m, bits .and .i64 y 255 = m := ⟨_, rfl⟩
            obtain ⟨m0, m1⟩ : 0 ≤ m ∧ m ≤ 255 := by rw [← hm]; exact and_low y 255 (by decide)
            obtain ⟨nw, hnw⟩ : ∃ nw, now + m = nw := ⟨_, rfl⟩
            have k1 : now ≤ nw := by omega
            have k2 : nw ≤ 255 * (i + 1 : Nat) := by omega
            have k3 : nw ≤ 1099511627776 := by omega
            have hgo : PWheel.goN now nw = nw := by simp [PWheel.goN, PWheel.goes, PWheel.isT]; omega
            have HG := Lib.hid hgo
            clear hgo
            go_wp2_with fail
            refine (go_c wr _ _ nw _ WT.out).mono ?_
            rintro e w5 ⟨A5, n5, c5, M, rfl, hn5, p5, s5, o5, W5, t5⟩
            rw [HG.out] at W5
            have O5 := Lib.hid (own_touch OS.out t5 (fun g' hg' ys hy => by
              have e : g' = w1.heap.size := by simpa using hg'
              subst e
              exact absurd rfl (Blk.ne hy WT.out.2 (by decide))))
            have B5 := Lib.hid (BT.out.trans (t5.below (by simp; exact hg1) BT.out.size))
            have I5 := Lib.hid (own_base o5 BT.out.size)
            have W5' := Lib.hid W5
            have HM := Lib.hid (And.intro p5 (And.intro s5 hn5))
            have HT2 := Lib.hid (hT.out.next (by omega) (by omega) k1 k3 p5)
            have HD := Lib.hid (fun j => p5.mem_iff.trans (hT.out.mem (by omega) (by omega) k1 k3 j))
            have hl5 : n5 < 4611686018427387904 := by
              have := p5.length_eq
              have h1 : (PWheel.goD T now nw).length ≤ 64 := by
                unfold PWheel.goD; split
                · exact PWheel.due_len _ _ _
                · simp
              omega
            clear c0 hn5 p5 s5 o5 W5 t5 WT OS BT hm hnw
            go_wp2_with fail
            go_loopw [14] (fun s14 wr => ∃ (u : Nat) (L : List Bool), u ≤ n5 ∧ s14 = .int .i64 u ∧ Hid (SeenK a k (decide (0 < i)) now M u L) ∧ Hid (Wl wr w1.heap.size nw (PWheel.clr T M)) ∧ Hid (wr.ownsRow w.heap.size 4 1 (.slice (some ⟨gs, 0, none⟩) k k) k (bo L)) ∧ Hid (wr.ownsRow w.heap.size 3 1 (.slice A5 n5 c5) n5 (is M)) ∧ Hid (Below w.heap.size w wr)) (fun s14 _ => n5 - (intOf s14).toNat)
            case atStart => exact ⟨0, L, by omega, rfl, Lib.hid (hL.out.zero M), W5', O5, I5, B5⟩
            case round =>
              clear W5' O5 I5 B5 hL
              obtain ⟨u, L, hu, rfl, hL, WT, OS, IS, BT⟩ := hrel
              by_cases hu5 : u < n5
              · obtain ⟨b5, o5, x, rfl, c5', hd5, -⟩ := (Rd.of_own IS.out).int hu5
                have hxm : x ∈ M := List.mem_of_mem_drop (by rw [hd5]; exact List.mem_cons_self ..)
                obtain ⟨x0, -⟩ := goes_mem (HM.out.1.mem_iff.1 hxm)
                obtain ⟨j, rfl⟩ := Int.eq_ofNat_of_zero_le x0
                obtain ⟨j1, j2, j3⟩ := (HD.out j).1 hxm
                have hno := hL.out.no j1 j2 (not_twice HM.out.2.1 hd5)
                obtain ⟨b, o, x, rfl, c0, -, hx⟩ := (HR.out.1.below BT.out).int (i := j) (by omega)
                have hb : bits .and .i64 x 1023 = a j := by rw [hx]; exact (HA.out.1 j).symm
                have hcs : wr.cell? ⟨gs, j, none⟩ = some (.bool false) := by
                  rw [OS.out.cellAt j (by omega), bo_at (by rw [hL.out.1]; exact j1), hno]
                have hfs : wr.frozen? ⟨gs, j, none⟩ = false := OS.out.frozenAt j
                have hst := (OS.out.stored j (.bool true)).1
                rw [bo_set] at hst
                have tw : Touch [gs] wr (wr.setCell ⟨gs, j, none⟩ (.bool true)) := Touch.of_grown (grown_set _ _ _ _)
                have hne : w1.heap.size ≠ gs := by
                  intro e
                  have := WT.out.2
                  rw [e] at this
                  exact absurd (own_type OS.out this) (by decide)
                have HW := Lib.hid (WT.out.touch tw (by simpa using hne))
                have HI := Lib.hid (own_touch IS.out tw (fun g' hg' ys hy => by
                  have e : g' = gs := by simpa using hg'
                  subst e
                  exact absurd (own_type OS.out hy) (by decide)))
                have hgsz : w.heap.size ≤ gs := hgs
                have HB := Lib.hid (BT.out.trans (tw.below (by simpa using hgsz) BT.out.size))
                have HS := Lib.hid (hL.out.step j1 hd5)
                have HO := Lib.hid hst
                have jp : j < p := by omega
                have hj2 : a j ≤ now → i = 0 := by
                  intro h
                  by_cases h' : 0 < i
                  · exact absurd ⟨by simp [h'], h⟩ j2
                  · omega
                obtain ⟨m, hm⟩ : ∃ m, m = a j := ⟨_, rfl⟩
                rw [← hm] at hb j3 hj2
                have HJ := Lib.hid (And.intro hm (And.intro j2 hj2))
                clear hno hx hst tw hd5 hxm x0 WT OS IS BT hL hne hm j2 hj2
                by_cases hmn : m ≤ now
                · have hi00 : i = 0 := HJ.out.2.2 hmn
                  have hi0 : ¬ 0 < i := by omega
                  have hi0b : decide ((i : Int) > 0) = false := decide_eq_false (by omega)
                  clear hi00
                  go_wp2_with fail
                  go_roundw
                  case rel => exact ⟨u + 1, _, by omega, by go_num, HS, HW, HO, HI, HB⟩
                  case measure => simp [intOf]; omega
                · go_wp2_with fail
                  go_roundw
                  case rel => exact ⟨u + 1, _, by omega, by go_num, HS, HW, HO, HI, HB⟩
                  case measure => simp [intOf]; omega
              · obtain rfl : u = n5 := by omega
                have HL := Lib.hid (hL.out.fin (by have := HM.out.2.2; omega) k1 HD.out)
                clear hL
                go_wp2_with fail
                go_roundw
                case rel => exact ⟨i + 1, nw, _, L, by omega, by omega, by go_num, rfl, by omega, k2, by rw [show decide (0 < i + 1) = true from by simp]; exact HT2, by rw [show decide (0 < i + 1) = true from by simp]; exact HL, WT, OS, BT⟩
                case measure => simp [intOf]; omega
          · have hdone := Lib.hid (show decide (0 < i) = true by simp; omega)
            have hL2 := Lib.hid hL.out
            clear hT WT hL
            have hq : (0 : Int) < (q : Int) := by omega
            go_wp2_with fail
            go_loopw [16] (fun s16 wr => ∃ j : Nat, j ≤ k ∧ s16 = .int .i64 j ∧ Hid (wr.ownsRow w.heap.size 4 1 (.slice (some ⟨gs, 0, none⟩) k k) k (bo L)) ∧ Hid (Below w.heap.size w wr)) (fun s16 _ => k - (intOf s16).toNat)
            case atStart => exact ⟨0, by omega, rfl, OS, BT⟩
            case round =>
              clear OS BT
              obtain ⟨j, hj, rfl, OS, BT⟩ := hrel
              by_cases hjk : j < k
              · obtain ⟨b, o, x, rfl, c0, -, hx⟩ := (HR.out.1.below BT.out).int (i := j) (by omega)
                have hb : bits .and .i64 x 1023 = a j := by rw [hx]; exact (HA.out.1 j).symm
                have hcs : wr.cell? ⟨gs, j, none⟩ = some (.bool (decide (a j ≤ now))) := by
                  rw [OS.out.cellAt j (by omega), bo_at (by rw [hL2.out.1]; exact hjk), hL2.out.2 j hjk, hdone.out]; rfl
                have jp : j < p := by omega
                obtain ⟨m, hm⟩ : ∃ m, m = a j := ⟨_, rfl⟩
                rw [← hm] at hb hcs
                have HJ := Lib.hid hm
                clear hx hm
                by_cases hmn : m ≤ now
                · rw [decide_eq_true hmn] at hcs
                  go_wp2_with fail
                  go_quiet (fail)
                  go_wp2_with fail
                  go_roundw
                  case rel => exact ⟨j + 1, by omega, by go_num, OS, Lib.hid (below_drawn BT.out _)⟩
                  case measure => simp [intOf]; omega
                · rw [decide_eq_false hmn] at hcs
                  go_wp2_with fail
                  go_quiet (fail)
                  go_wp2_with fail
                  go_roundw
                  case rel => exact ⟨j + 1, by omega, by go_num, OS, Lib.hid (below_drawn BT.out _)⟩
                  case measure => simp [intOf]; omega
              · obtain rfl : j = k := by omega
                go_wp2_with fail
                go_ret
                exact ⟨rfl, BT.out⟩
        · by_cases hq0 : q = 0
          · have hi0 : i = 0 := by omega
            subst hi0
            subst hq0
            clear hT WT hL
            go_wp2_with fail
            go_loopw [16] (fun s16 wr => s16 = .int .i64 0 ∧ Hid (Below w.heap.size w wr)) (fun s16 _ => 0)
            case atStart => exact ⟨rfl, BT⟩
            case round =>
              clear OS BT
              obtain ⟨rfl, BT⟩ := hrel
              by_cases hjk : 0 < k
              · go_wp2_with fail
                go_ret
                exact ⟨rfl, BT.out⟩
              · obtain rfl : k = 0 := by omega
                go_wp2_with fail
                go_ret
                exact ⟨rfl, BT.out⟩
          · have hdone := Lib.hid (show decide (0 < i) = true by simp; omega)
            have hL2 := Lib.hid hL.out
            clear hT WT hL
            have hq : (0 : Int) < (q : Int) := by omega
            go_wp2_with fail
            go_loopw [16] (fun s16 wr => ∃ j : Nat, j ≤ k ∧ s16 = .int .i64 j ∧ Hid (wr.ownsRow w.heap.size 4 1 (.slice (some ⟨gs, 0, none⟩) k k) k (bo L)) ∧ Hid (Below w.heap.size w wr)) (fun s16 _ => k - (intOf s16).toNat)
            case atStart => exact ⟨0, by omega, rfl, OS, BT⟩
            case round =>
              clear OS BT
              obtain ⟨j, hj, rfl, OS, BT⟩ := hrel
              by_cases hjk : j < k
              · obtain ⟨b, o, x, rfl, c0, -, hx⟩ := (HR.out.1.below BT.out).int (i := j) (by omega)
                have hb : bits .and .i64 x 1023 = a j := by rw [hx]; exact (HA.out.1 j).symm
                have hcs : wr.cell? ⟨gs, j, none⟩ = some (.bool (decide (a j ≤ now))) := by
                  rw [OS.out.cellAt j (by omega), bo_at (by rw [hL2.out.1]; exact hjk), hL2.out.2 j hjk, hdone.out]; rfl
                have jp : j < p := by omega
                obtain ⟨m, hm⟩ : ∃ m, m = a j := ⟨_, rfl⟩
                rw [← hm] at hb hcs
                have HJ := Lib.hid hm
                clear hx hm
                by_cases hmn : m ≤ now
                · rw [decide_eq_true hmn] at hcs
                  go_wp2_with fail
                  go_quiet (fail)
                  go_wp2_with fail
                  go_roundw
                  case rel => exact ⟨j + 1, by omega, by go_num, OS, Lib.hid (below_drawn BT.out _)⟩
                  case measure => simp [intOf]; omega
                · rw [decide_eq_false hmn] at hcs
                  go_wp2_with fail
                  go_quiet (fail)
                  go_wp2_with fail
                  go_roundw
                  case rel => exact ⟨j + 1, by omega, by go_num, OS, Lib.hid (below_drawn BT.out _)⟩
                  case measure => simp [intOf]; omega
              · obtain rfl : j = k := by omega
                go_wp2_with fail
                go_ret
                exact ⟨rfl, BT.out⟩

end Go.Proofs.Ytnpdhddnlcpaiaa
