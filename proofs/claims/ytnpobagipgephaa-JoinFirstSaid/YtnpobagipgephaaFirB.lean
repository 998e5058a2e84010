/- The walk of JoinFirst: 5, 6. -/
import Derived.Test.YtnpobagipgephaaFir
namespace Go.Proofs.Ytnpobagipgephaa
open Go.RowKit PJoin

set_option maxHeartbeats 8000000 in
set_option maxRecDepth 100000 in
theorem JoinFirst_5 (w : World) (boot pro : Int) (A : Option Addr) (c l : Nat) (L : List Int) (R : Rd w w.heap.size A c 1 l (is L)) (b1 : 1 ≤ boot) (b2 : boot ≤ 1000) (p1 : 0 ≤ pro) (p2 : pro ≤ 1000) : Calls Try.prog 5 #[.int .i64 5, .int .i64 boot, .int .i64 pro, .slice A l c] w fun e w' => e = .returned (.bool true) ∧ Below w.heap.size w w' := by
  have R0 := Lib.hid R
  have hcap := R.cap
  have hle := R.le
  have hl : l ≤ 9223372036854775807 := by unfold maxLen at hcap; omega
  clear R hcap hle
  go_enter Try.func5, Try.ntmps5
  go_wp2_with fail
  refine (begunJ_c w).mono ?_
  rintro e w1 ⟨rfl, bb⟩
  go_wp2_with fail
  refine (Sj.new bb (me := 5) (n := 5) (by decide) (by decide) (by decide) (by decide) b1 (by omega) p1 (by omega)).mono ?_
  rintro e w2 ⟨rfl, s2, -⟩
  have S2 := Lib.hid s2
  clear bb s2
  generalize w1.heap.size = g at *
  go_wp2_with fail
  go_loopw [11, 12] (fun s11 s12 wr => ∃ (i : Nat) (got : Int), i ≤ l ∧ i ≤ 20 ∧ s11 = .int .i64 got ∧ s12 = .int .i64 i ∧ ((got = 0 ∧ Hid (Sj w wr g 5 5 boot pro none)) ∨ (0 < got ∧ Hid (∃ p, Sj w wr g 5 5 boot pro (some (fM 5 boot p got 31)))))) (fun _ s12 _ => l - (intOf s12).toNat)
  case atStart => exact ⟨0, 0, by omega, by omega, rfl, rfl, .inl ⟨rfl, S2⟩⟩
  case round =>
    clear S2
    obtain ⟨i, got, hi, hi20, rfl, rfl, hs⟩ := hrel
    have HB := Lib.hid (show Below w.heap.size w wr from by
      rcases hs with ⟨_, h⟩ | ⟨_, h⟩
      · exact h.out.bel
      · obtain ⟨p, h⟩ := h.out; exact h.bel)
    by_cases hil : i < l
    · by_cases hi2 : i < 20
      · obtain ⟨b, o, x, rfl, c0, -, -⟩ := (R0.out.below HB.out).int hil
        obtain ⟨m, hm⟩ : ∃ m, bits .and .i64 x 1023 = m := ⟨_, rfl⟩
        obtain ⟨m0, m1⟩ : 0 ≤ m ∧ m ≤ 1023 := by rw [← hm]; exact and_lowJ x 1023 (by decide)
        have HW := Lib.hid (fM_word (boot := boot) (pro := pro) (k := 5) (v := 1 + m) (n := 5) rfl (by decide) (by decide) (by omega))
        go_wp2_with fail
        refine (rtDecider_c wr (1 + m) 5 (by omega) (by omega)).mono ?_
        rintro e w3 ⟨rfl, rfl⟩
        clear c0
        have hdp : 1 ≤ PTeam.decider (1 + m) 5 ∧ PTeam.decider (1 + m) 5 ≤ 5 := by
          unfold PTeam.decider
          rw [if_neg (by omega)]
          omega
        generalize PTeam.decider (1 + m) 5 = p at *
        by_cases hp : p = 5
        · subst hp
          go_wp2_with fail
          go_roundw
          case rel => exact ⟨i + 1, got, by omega, by omega, by go_num, by go_num, hs⟩
          case measure => simp [intOf]; omega
        · have e1 : (p == 5) = false := by simpa using hp
          have hA : Blk (wr.alloc (.cells #[.int .i64 0, .int .i64 0, .int .i64 0, .int .i64 0, .int .i64 0, .int .i64 0, .int .i64 0, .int .i64 0, .slice none 0 0, .int .i64 0, .int .i64 0, .int .i64 0, .bool false] 30)) wr.heap.size 30 (mcs zeroM none 0) := Blk.new wr #[.int .i64 0, .int .i64 0, .int .i64 0, .int .i64 0, .int .i64 0, .int .i64 0, .int .i64 0, .int .i64 0, .slice none 0 0, .int .i64 0, .int .i64 0, .int .i64 0, .bool false] 30
          have HA := Lib.hid hA
          have KB := Lib.hid (show Blk ((wr.alloc (.cells #[.int .i64 0, .int .i64 0, .int .i64 0, .int .i64 0, .int .i64 0, .int .i64 0, .int .i64 0, .int .i64 0, .slice none 0 0, .int .i64 0, .int .i64 0, .int .i64 0, .bool false] 30)).setRow wr.heap.size #[.int .i64 11, .int .i64 p, .int .i64 5, .int .i64 1, .int .i64 (1 + m), .int .i64 0, .int .i64 31, .int .i64 0, .slice none 0 0, .int .i64 0, .int .i64 boot, .int .i64 0, .bool true]) wr.heap.size 30 (mcs (fM 5 boot p (1 + m) 31) none 0) from hA.row #[.int .i64 11, .int .i64 p, .int .i64 5, .int .i64 1, .int .i64 (1 + m), .int .i64 0, .int .i64 31, .int .i64 0, .slice none 0 0, .int .i64 0, .int .i64 boot, .int .i64 0, .bool true])
          have TB : Touch [wr.heap.size] wr ((wr.alloc (.cells #[.int .i64 0, .int .i64 0, .int .i64 0, .int .i64 0, .int .i64 0, .int .i64 0, .int .i64 0, .int .i64 0, .slice none 0 0, .int .i64 0, .int .i64 0, .int .i64 0, .bool false] 30)).setRow wr.heap.size #[.int .i64 11, .int .i64 p, .int .i64 5, .int .i64 1, .int .i64 (1 + m), .int .i64 0, .int .i64 31, .int .i64 0, .slice none 0 0, .int .i64 0, .int .i64 boot, .int .i64 0, .bool true]) := (Touch.of_below ((Below.refl _ _).alloc (Nat.le_refl _) _)).trans (.of_grown (grown_row _ _ _))
          have BB : Below wr.heap.size wr ((wr.alloc (.cells #[.int .i64 0, .int .i64 0, .int .i64 0, .int .i64 0, .int .i64 0, .int .i64 0, .int .i64 0, .int .i64 0, .slice none 0 0, .int .i64 0, .int .i64 0, .int .i64 0, .bool false] 30)).setRow wr.heap.size #[.int .i64 11, .int .i64 p, .int .i64 5, .int .i64 1, .int .i64 (1 + m), .int .i64 0, .int .i64 31, .int .i64 0, .slice none 0 0, .int .i64 0, .int .i64 boot, .int .i64 0, .bool true]) := TB.below (by simp) (Nat.le_refl _)
          have HBB := Lib.hid BB
          have HW : word 5 5 boot pro (fM 5 boot p (1 + m) 31) = decide (pro ≤ 1 + m) := HW.out
          rcases hs with ⟨rfl, hs⟩ | ⟨hg, hs⟩
          · have S3 := Lib.hid (hs.out.past BB)
            clear hs hA TB BB
            by_cases hv : pro ≤ 1 + m
            · have HW := Lib.hid (HW.trans (decide_eq_true hv))
              have d1 : decide (pro ≤ 1 + m) = true := decide_eq_true hv
              have d2 : decide (1 + m > 0) = true := decide_eq_true (by omega)
              go_wp2_with (first | ((with_reducible show wpList _ _ _ ((⟨none, Op.store 30 (.tmp 15) _, _, _, _, _⟩ : Oper) :: _) _ _); go_must (refine wpList_store_row rfl 30 (.tmp 15) (.tmp 79) rfl wr.heap.size _ rfl rfl _ _ HA.out (by kernel_rfl) (by rfl) (by kernel_rfl) ?_)) | ((with_reducible show wpList _ _ _ ((⟨some 88, Op.load _ _, _, _, _, _⟩ : Oper) :: _) _ _); go_must (refine wpList_load_row rfl 30 (.tmp 15) rfl wr.heap.size rfl 30 #[.int .i64 11, .int .i64 p, .int .i64 5, .int .i64 1, .int .i64 (1 + m), .int .i64 0, .int .i64 31, .int .i64 0, .slice none 0 0, .int .i64 0, .int .i64 boot, .int .i64 0, .bool true] (0, 0) _ KB.out Try.underlying30 rfl (by kernel_rfl) ?_)))
              clear HA KB
              generalize ((wr.alloc (.cells #[.int .i64 0, .int .i64 0, .int .i64 0, .int .i64 0, .int .i64 0, .int .i64 0, .int .i64 0, .int .i64 0, .slice none 0 0, .int .i64 0, .int .i64 0, .int .i64 0, .bool false] 30)).setRow wr.heap.size #[.int .i64 11, .int .i64 p, .int .i64 5, .int .i64 1, .int .i64 (1 + m), .int .i64 0, .int .i64 31, .int .i64 0, .slice none 0 0, .int .i64 0, .int .i64 boot, .int .i64 0, .bool true]) = w3 at *
              refine (show Calls Try.prog 11 #[.pointer (some ⟨g, 0, none⟩), .agg #[.int .i64 11, .int .i64 p, .int .i64 5, .int .i64 1, .int .i64 (1 + m), .int .i64 0, .int .i64 31, .int .i64 0, .slice none 0 0, .int .i64 0, .int .i64 boot, .int .i64 0, .bool true]] w3 _ from S3.out.hear_yes (m := fM 5 boot p (1 + m) 31) (A := none) (c := 0) (Rd.nil _ _ _) ⟨by show _ ≤ 1 + m; omega, by show 1 + m ≤ _; omega⟩ (show (-9223372036854775808 : Int) ≤ 31 ∧ (31 : Int) ≤ 9223372036854775807 by decide) HW.out).mono ?_
              rintro e w4 ⟨rfl, s4, -, -⟩
              have S4 := Lib.hid s4
              clear s4 S3 HW
              go_wp2_with fail
              refine S4.out.got_yes.mono ?_
              simp only [mv, fM, List.length_nil]
              rintro e w5 ⟨A', c', rfl, -, b5⟩
              have S5 := S4.out.past b5
              have N5 := Lib.hid (show Blk (w5.alloc (.cells #[.int .i64 0, .int .i64 0, .int .i64 0, .int .i64 0, .int .i64 0, .int .i64 0, .int .i64 0, .int .i64 0, .slice none 0 0, .int .i64 0, .int .i64 0, .int .i64 0, .bool false] 30)) w5.heap.size 30 (mcs zeroM none 0) from Blk.new w5 #[.int .i64 0, .int .i64 0, .int .i64 0, .int .i64 0, .int .i64 0, .int .i64 0, .int .i64 0, .int .i64 0, .slice none 0 0, .int .i64 0, .int .i64 0, .int .i64 0, .bool false] 30)
              have M6 := Lib.hid (show Blk ((w5.alloc (.cells #[.int .i64 0, .int .i64 0, .int .i64 0, .int .i64 0, .int .i64 0, .int .i64 0, .int .i64 0, .int .i64 0, .slice none 0 0, .int .i64 0, .int .i64 0, .int .i64 0, .bool false] 30)).setRow w5.heap.size #[.int .i64 11, .int .i64 p, .int .i64 5, .int .i64 1, .int .i64 (1 + m), .int .i64 0, .int .i64 31, .int .i64 0, .slice A' 0 c', .int .i64 0, .int .i64 boot, .int .i64 0, .bool true]) w5.heap.size 30 (mcs (fM 5 boot p (1 + m) 31) A' c') from N5.out.row #[.int .i64 11, .int .i64 p, .int .i64 5, .int .i64 1, .int .i64 (1 + m), .int .i64 0, .int .i64 31, .int .i64 0, .slice A' 0 c', .int .i64 0, .int .i64 boot, .int .i64 0, .bool true])
              have f4 : ((w5.alloc (.cells #[.int .i64 0, .int .i64 0, .int .i64 0, .int .i64 0, .int .i64 0, .int .i64 0, .int .i64 0, .int .i64 0, .slice none 0 0, .int .i64 0, .int .i64 0, .int .i64 0, .bool false] 30)).setRow w5.heap.size #[.int .i64 11, .int .i64 p, .int .i64 5, .int .i64 1, .int .i64 (1 + m), .int .i64 0, .int .i64 31, .int .i64 0, .slice A' 0 c', .int .i64 0, .int .i64 boot, .int .i64 0, .bool true]).cell? ⟨w5.heap.size, 4, none⟩ = some (.int .i64 (1 + m)) := M6.out.cell (i := 4) rfl
              have b6 : Below w5.heap.size w5 ((w5.alloc (.cells #[.int .i64 0, .int .i64 0, .int .i64 0, .int .i64 0, .int .i64 0, .int .i64 0, .int .i64 0, .int .i64 0, .slice none 0 0, .int .i64 0, .int .i64 0, .int .i64 0, .bool false] 30)).setRow w5.heap.size #[.int .i64 11, .int .i64 p, .int .i64 5, .int .i64 1, .int .i64 (1 + m), .int .i64 0, .int .i64 31, .int .i64 0, .slice A' 0 c', .int .i64 0, .int .i64 boot, .int .i64 0, .bool true]) := (((Touch.of_below (S := [w5.heap.size]) ((Below.refl _ _).alloc (Nat.le_refl _) _)).trans (.of_grown (grown_row _ _ _))).below (by simp) (Nat.le_refl _))
              have S6 := Lib.hid (S5.past b6)
              clear b5 b6 S5 S4 M6
              go_wp2_with ((with_reducible show wpList _ _ _ ((⟨none, Op.store 30 (.tmp 17) _, _, _, _, _⟩ : Oper) :: _) _ _); go_must (refine wpList_store_row rfl 30 (.tmp 17) (.tmp 97) rfl w5.heap.size _ rfl rfl _ _ N5.out (by kernel_rfl) (by rfl) (by kernel_rfl) ?_))
              go_roundw
              case rel => exact ⟨i + 1, 1 + m, by omega, by omega, by go_num, by go_num, .inr ⟨by omega, Lib.hid ⟨p, S6.out⟩⟩⟩
              case measure => simp [intOf]; omega
            · have HW := Lib.hid (HW.trans (decide_eq_false hv))
              have d1 : decide (pro ≤ 1 + m) = false := decide_eq_false hv
              go_wp2_with (first | ((with_reducible show wpList _ _ _ ((⟨none, Op.store 30 (.tmp 15) _, _, _, _, _⟩ : Oper) :: _) _ _); go_must (refine wpList_store_row rfl 30 (.tmp 15) (.tmp 79) rfl wr.heap.size _ rfl rfl _ _ HA.out (by kernel_rfl) (by rfl) (by kernel_rfl) ?_)) | ((with_reducible show wpList _ _ _ ((⟨some 88, Op.load _ _, _, _, _, _⟩ : Oper) :: _) _ _); go_must (refine wpList_load_row rfl 30 (.tmp 15) rfl wr.heap.size rfl 30 #[.int .i64 11, .int .i64 p, .int .i64 5, .int .i64 1, .int .i64 (1 + m), .int .i64 0, .int .i64 31, .int .i64 0, .slice none 0 0, .int .i64 0, .int .i64 boot, .int .i64 0, .bool true] (0, 0) _ KB.out Try.underlying30 rfl (by kernel_rfl) ?_)))
              clear HA KB
              generalize ((wr.alloc (.cells #[.int .i64 0, .int .i64 0, .int .i64 0, .int .i64 0, .int .i64 0, .int .i64 0, .int .i64 0, .int .i64 0, .slice none 0 0, .int .i64 0, .int .i64 0, .int .i64 0, .bool false] 30)).setRow wr.heap.size #[.int .i64 11, .int .i64 p, .int .i64 5, .int .i64 1, .int .i64 (1 + m), .int .i64 0, .int .i64 31, .int .i64 0, .slice none 0 0, .int .i64 0, .int .i64 boot, .int .i64 0, .bool true]) = w3 at *
              refine (show Calls Try.prog 11 #[.pointer (some ⟨g, 0, none⟩), .agg #[.int .i64 11, .int .i64 p, .int .i64 5, .int .i64 1, .int .i64 (1 + m), .int .i64 0, .int .i64 31, .int .i64 0, .slice none 0 0, .int .i64 0, .int .i64 boot, .int .i64 0, .bool true]] w3 _ from S3.out.hear_no (m := fM 5 boot p (1 + m) 31) (A := none) (c := 0) (Rd.nil _ _ _) ⟨by show _ ≤ 1 + m; omega, by show 1 + m ≤ _; omega⟩ (show (-9223372036854775808 : Int) ≤ 31 ∧ (31 : Int) ≤ 9223372036854775807 by decide) (.inr HW.out)).mono ?_
              rintro e w4 ⟨rfl, b4⟩
              have S4 := Lib.hid (S3.out.past b4)
              clear b4 S3 HW
              go_wp2_with fail
              refine S4.out.got_no.mono ?_
              simp only [mv, zeroM]
              rintro e w5 ⟨rfl, b5⟩
              have S5 := S4.out.past b5
              have N5 := Lib.hid (show Blk (w5.alloc (.cells #[.int .i64 0, .int .i64 0, .int .i64 0, .int .i64 0, .int .i64 0, .int .i64 0, .int .i64 0, .int .i64 0, .slice none 0 0, .int .i64 0, .int .i64 0, .int .i64 0, .bool false] 30)) w5.heap.size 30 (mcs zeroM none 0) from Blk.new w5 #[.int .i64 0, .int .i64 0, .int .i64 0, .int .i64 0, .int .i64 0, .int .i64 0, .int .i64 0, .int .i64 0, .slice none 0 0, .int .i64 0, .int .i64 0, .int .i64 0, .bool false] 30)
              have b6 : Below w5.heap.size w5 ((w5.alloc (.cells #[.int .i64 0, .int .i64 0, .int .i64 0, .int .i64 0, .int .i64 0, .int .i64 0, .int .i64 0, .int .i64 0, .slice none 0 0, .int .i64 0, .int .i64 0, .int .i64 0, .bool false] 30)).setRow w5.heap.size #[.int .i64 0, .int .i64 0, .int .i64 0, .int .i64 0, .int .i64 0, .int .i64 0, .int .i64 0, .int .i64 0, .slice none 0 0, .int .i64 0, .int .i64 0, .int .i64 0, .bool false]) := (((Touch.of_below (S := [w5.heap.size]) ((Below.refl _ _).alloc (Nat.le_refl _) _)).trans (.of_grown (grown_row _ _ _))).below (by simp) (Nat.le_refl _))
              have S6 := Lib.hid (S5.past b6)
              clear b5 b6 S5 S4
              go_wp2_with ((with_reducible show wpList _ _ _ ((⟨none, Op.store 30 (.tmp 17) _, _, _, _, _⟩ : Oper) :: _) _ _); go_must (refine wpList_store_row rfl 30 (.tmp 17) (.tmp 97) rfl w5.heap.size _ rfl rfl _ _ N5.out (by kernel_rfl) (by rfl) (by kernel_rfl) ?_))
              go_roundw
              case rel => exact ⟨i + 1, 0, by omega, by omega, by go_num, by go_num, .inl ⟨rfl, S6⟩⟩
              case measure => simp [intOf]; omega
          · have S3 := Lib.hid (show ∃ p2, Sj w ((wr.alloc (.cells #[.int .i64 0, .int .i64 0, .int .i64 0, .int .i64 0, .int .i64 0, .int .i64 0, .int .i64 0, .int .i64 0, .slice none 0 0, .int .i64 0, .int .i64 0, .int .i64 0, .bool false] 30)).setRow wr.heap.size #[.int .i64 11, .int .i64 p, .int .i64 5, .int .i64 1, .int .i64 (1 + m), .int .i64 0, .int .i64 31, .int .i64 0, .slice none 0 0, .int .i64 0, .int .i64 boot, .int .i64 0, .bool true]) g 5 5 boot pro (some (fM 5 boot p2 got 31)) from by
              obtain ⟨p2, h⟩ := hs.out
              exact ⟨p2, h.past BB⟩)
            clear hs hA TB BB HW
            obtain ⟨p3, S3⟩ := S3.out
            have S3 := Lib.hid S3
            have e0 : (got == 0) = false := by simpa using (show got ≠ 0 by omega)
            go_wp2_with (first | ((with_reducible show wpList _ _ _ ((⟨none, Op.store 30 (.tmp 15) _, _, _, _, _⟩ : Oper) :: _) _ _); go_must (refine wpList_store_row rfl 30 (.tmp 15) (.tmp 79) rfl wr.heap.size _ rfl rfl _ _ HA.out (by kernel_rfl) (by rfl) (by kernel_rfl) ?_)) | ((with_reducible show wpList _ _ _ ((⟨some 88, Op.load _ _, _, _, _, _⟩ : Oper) :: _) _ _); go_must (refine wpList_load_row rfl 30 (.tmp 15) rfl wr.heap.size rfl 30 #[.int .i64 11, .int .i64 p, .int .i64 5, .int .i64 1, .int .i64 (1 + m), .int .i64 0, .int .i64 31, .int .i64 0, .slice none 0 0, .int .i64 0, .int .i64 boot, .int .i64 0, .bool true] (0, 0) _ KB.out Try.underlying30 rfl (by kernel_rfl) ?_)))
            clear HA KB
            generalize ((wr.alloc (.cells #[.int .i64 0, .int .i64 0, .int .i64 0, .int .i64 0, .int .i64 0, .int .i64 0, .int .i64 0, .int .i64 0, .slice none 0 0, .int .i64 0, .int .i64 0, .int .i64 0, .bool false] 30)).setRow wr.heap.size #[.int .i64 11, .int .i64 p, .int .i64 5, .int .i64 1, .int .i64 (1 + m), .int .i64 0, .int .i64 31, .int .i64 0, .slice none 0 0, .int .i64 0, .int .i64 boot, .int .i64 0, .bool true]) = w3 at *
            refine (show Calls Try.prog 11 #[.pointer (some ⟨g, 0, none⟩), .agg #[.int .i64 11, .int .i64 p, .int .i64 5, .int .i64 1, .int .i64 (1 + m), .int .i64 0, .int .i64 31, .int .i64 0, .slice none 0 0, .int .i64 0, .int .i64 boot, .int .i64 0, .bool true]] w3 _ from S3.out.hear_no (m := fM 5 boot p (1 + m) 31) (A := none) (c := 0) (Rd.nil _ _ _) ⟨by show _ ≤ 1 + m; omega, by show 1 + m ≤ _; omega⟩ (show (-9223372036854775808 : Int) ≤ 31 ∧ (31 : Int) ≤ 9223372036854775807 by decide) (.inl rfl)).mono ?_
            rintro e w4 ⟨rfl, b4⟩
            have S4 := Lib.hid (S3.out.past b4)
            clear b4 S3
            go_wp2_with fail
            refine S4.out.got_yes.mono ?_
            simp only [mv, fM, List.length_nil]
            rintro e w5 ⟨A', c', rfl, -, b5⟩
            have S5 := S4.out.past b5
            have N5 := Lib.hid (show Blk (w5.alloc (.cells #[.int .i64 0, .int .i64 0, .int .i64 0, .int .i64 0, .int .i64 0, .int .i64 0, .int .i64 0, .int .i64 0, .slice none 0 0, .int .i64 0, .int .i64 0, .int .i64 0, .bool false] 30)) w5.heap.size 30 (mcs zeroM none 0) from Blk.new w5 #[.int .i64 0, .int .i64 0, .int .i64 0, .int .i64 0, .int .i64 0, .int .i64 0, .int .i64 0, .int .i64 0, .slice none 0 0, .int .i64 0, .int .i64 0, .int .i64 0, .bool false] 30)
            have M6 := Lib.hid (show Blk ((w5.alloc (.cells #[.int .i64 0, .int .i64 0, .int .i64 0, .int .i64 0, .int .i64 0, .int .i64 0, .int .i64 0, .int .i64 0, .slice none 0 0, .int .i64 0, .int .i64 0, .int .i64 0, .bool false] 30)).setRow w5.heap.size #[.int .i64 11, .int .i64 p3, .int .i64 5, .int .i64 1, .int .i64 got, .int .i64 0, .int .i64 31, .int .i64 0, .slice A' 0 c', .int .i64 0, .int .i64 boot, .int .i64 0, .bool true]) w5.heap.size 30 (mcs (fM 5 boot p3 got 31) A' c') from N5.out.row #[.int .i64 11, .int .i64 p3, .int .i64 5, .int .i64 1, .int .i64 got, .int .i64 0, .int .i64 31, .int .i64 0, .slice A' 0 c', .int .i64 0, .int .i64 boot, .int .i64 0, .bool true])
            have f4 : ((w5.alloc (.cells #[.int .i64 0, .int .i64 0, .int .i64 0, .int .i64 0, .int .i64 0, .int .i64 0, .int .i64 0, .int .i64 0, .slice none 0 0, .int .i64 0, .int .i64 0, .int .i64 0, .bool false] 30)).setRow w5.heap.size #[.int .i64 11, .int .i64 p3, .int .i64 5, .int .i64 1, .int .i64 got, .int .i64 0, .int .i64 31, .int .i64 0, .slice A' 0 c', .int .i64 0, .int .i64 boot, .int .i64 0, .bool true]).cell? ⟨w5.heap.size, 4, none⟩ = some (.int .i64 (got)) := M6.out.cell (i := 4) rfl
            have b6 : Below w5.heap.size w5 ((w5.alloc (.cells #[.int .i64 0, .int .i64 0, .int .i64 0, .int .i64 0, .int .i64 0, .int .i64 0, .int .i64 0, .int .i64 0, .slice none 0 0, .int .i64 0, .int .i64 0, .int .i64 0, .bool false] 30)).setRow w5.heap.size #[.int .i64 11, .int .i64 p3, .int .i64 5, .int .i64 1, .int .i64 got, .int .i64 0, .int .i64 31, .int .i64 0, .slice A' 0 c', .int .i64 0, .int .i64 boot, .int .i64 0, .bool true]) := (((Touch.of_below (S := [w5.heap.size]) ((Below.refl _ _).alloc (Nat.le_refl _) _)).trans (.of_grown (grown_row _ _ _))).below (by simp) (Nat.le_refl _))
            have S6 := Lib.hid (S5.past b6)
            clear b5 b6 S5 S4 M6
            go_wp2_with ((with_reducible show wpList _ _ _ ((⟨none, Op.store 30 (.tmp 17) _, _, _, _, _⟩ : Oper) :: _) _ _); go_must (refine wpList_store_row rfl 30 (.tmp 17) (.tmp 97) rfl w5.heap.size _ rfl rfl _ _ N5.out (by kernel_rfl) (by rfl) (by kernel_rfl) ?_))
            go_roundw
            case rel => exact ⟨i + 1, got, by omega, by omega, by go_num, by go_num, .inr ⟨hg, Lib.hid ⟨p3, S6.out⟩⟩⟩
            case measure => simp [intOf]; omega
      · obtain rfl : i = 20 := by omega
        go_wp2_with fail
        go_ret
        exact ⟨rfl, HB.out⟩
    · obtain rfl : i = l := by omega
      go_wp2_with fail
      go_ret
      exact ⟨rfl, HB.out⟩
set_option maxHeartbeats 8000000 in
set_option maxRecDepth 100000 in
theorem JoinFirst_6 (w : World) (boot pro : Int) (A : Option Addr) (c l : Nat) (L : List Int) (R : Rd w w.heap.size A c 1 l (is L)) (b1 : 1 ≤ boot) (b2 : boot ≤ 1000) (p1 : 0 ≤ pro) (p2 : pro ≤ 1000) : Calls Try.prog 5 #[.int .i64 6, .int .i64 boot, .int .i64 pro, .slice A l c] w fun e w' => e = .returned (.bool true) ∧ Below w.heap.size w w' := by
  have R0 := Lib.hid R
  have hcap := R.cap
  have hle := R.le
  have hl : l ≤ 9223372036854775807 := by unfold maxLen at hcap; omega
  clear R hcap hle
  go_enter Try.func5, Try.ntmps5
  go_wp2_with fail
  refine (begunJ_c w).mono ?_
  rintro e w1 ⟨rfl, bb⟩
  go_wp2_with fail
  refine (Sj.new bb (me := 6) (n := 6) (by decide) (by decide) (by decide) (by decide) b1 (by omega) p1 (by omega)).mono ?_
  rintro e w2 ⟨rfl, s2, -⟩
  have S2 := Lib.hid s2
  clear bb s2
  generalize w1.heap.size = g at *
  go_wp2_with fail
  go_loopw [11, 12] (fun s11 s12 wr => ∃ (i : Nat) (got : Int), i ≤ l ∧ i ≤ 20 ∧ s11 = .int .i64 got ∧ s12 = .int .i64 i ∧ ((got = 0 ∧ Hid (Sj w wr g 6 6 boot pro none)) ∨ (0 < got ∧ Hid (∃ p, Sj w wr g 6 6 boot pro (some (fM 6 boot p got 63)))))) (fun _ s12 _ => l - (intOf s12).toNat)
  case atStart => exact ⟨0, 0, by omega, by omega, rfl, rfl, .inl ⟨rfl, S2⟩⟩
  case round =>
    clear S2
    obtain ⟨i, got, hi, hi20, rfl, rfl, hs⟩ := hrel
    have HB := Lib.hid (show Below w.heap.size w wr from by
      rcases hs with ⟨_, h⟩ | ⟨_, h⟩
      · exact h.out.bel
      · obtain ⟨p, h⟩ := h.out; exact h.bel)
    by_cases hil : i < l
    · by_cases hi2 : i < 20
      · obtain ⟨b, o, x, rfl, c0, -, -⟩ := (R0.out.below HB.out).int hil
        obtain ⟨m, hm⟩ : ∃ m, bits .and .i64 x 1023 = m := ⟨_, rfl⟩
        obtain ⟨m0, m1⟩ : 0 ≤ m ∧ m ≤ 1023 := by rw [← hm]; exact and_lowJ x 1023 (by decide)
        have HW := Lib.hid (fM_word (boot := boot) (pro := pro) (k := 6) (v := 1 + m) (n := 6) rfl (by decide) (by decide) (by omega))
        go_wp2_with fail
        refine (rtDecider_c wr (1 + m) 6 (by omega) (by omega)).mono ?_
        rintro e w3 ⟨rfl, rfl⟩
        clear c0
        have hdp : 1 ≤ PTeam.decider (1 + m) 6 ∧ PTeam.decider (1 + m) 6 ≤ 6 := by
          unfold PTeam.decider
          rw [if_neg (by omega)]
          omega
        generalize PTeam.decider (1 + m) 6 = p at *
        by_cases hp : p = 6
        · subst hp
          go_wp2_with fail
          go_roundw
          case rel => exact ⟨i + 1, got, by omega, by omega, by go_num, by go_num, hs⟩
          case measure => simp [intOf]; omega
        · have e1 : (p == 6) = false := by simpa using hp
          have hA : Blk (wr.alloc (.cells #[.int .i64 0, .int .i64 0, .int .i64 0, .int .i64 0, .int .i64 0, .int .i64 0, .int .i64 0, .int .i64 0, .slice none 0 0, .int .i64 0, .int .i64 0, .int .i64 0, .bool false] 30)) wr.heap.size 30 (mcs zeroM none 0) := Blk.new wr #[.int .i64 0, .int .i64 0, .int .i64 0, .int .i64 0, .int .i64 0, .int .i64 0, .int .i64 0, .int .i64 0, .slice none 0 0, .int .i64 0, .int .i64 0, .int .i64 0, .bool false] 30
          have HA := Lib.hid hA
          have KB := Lib.hid (show Blk ((wr.alloc (.cells #[.int .i64 0, .int .i64 0, .int .i64 0, .int .i64 0, .int .i64 0, .int .i64 0, .int .i64 0, .int .i64 0, .slice none 0 0, .int .i64 0, .int .i64 0, .int .i64 0, .bool false] 30)).setRow wr.heap.size #[.int .i64 11, .int .i64 p, .int .i64 6, .int .i64 1, .int .i64 (1 + m), .int .i64 0, .int .i64 63, .int .i64 0, .slice none 0 0, .int .i64 0, .int .i64 boot, .int .i64 0, .bool true]) wr.heap.size 30 (mcs (fM 6 boot p (1 + m) 63) none 0) from hA.row #[.int .i64 11, .int .i64 p, .int .i64 6, .int .i64 1, .int .i64 (1 + m), .int .i64 0, .int .i64 63, .int .i64 0, .slice none 0 0, .int .i64 0, .int .i64 boot, .int .i64 0, .bool true])
          have TB : Touch [wr.heap.size] wr ((wr.alloc (.cells #[.int .i64 0, .int .i64 0, .int .i64 0, .int .i64 0, .int .i64 0, .int .i64 0, .int .i64 0, .int .i64 0, .slice none 0 0, .int .i64 0, .int .i64 0, .int .i64 0, .bool false] 30)).setRow wr.heap.size #[.int .i64 11, .int .i64 p, .int .i64 6, .int .i64 1, .int .i64 (1 + m), .int .i64 0, .int .i64 63, .int .i64 0, .slice none 0 0, .int .i64 0, .int .i64 boot, .int .i64 0, .bool true]) := (Touch.of_below ((Below.refl _ _).alloc (Nat.le_refl _) _)).trans (.of_grown (grown_row _ _ _))
          have BB : Below wr.heap.size wr ((wr.alloc (.cells #[.int .i64 0, .int .i64 0, .int .i64 0, .int .i64 0, .int .i64 0, .int .i64 0, .int .i64 0, .int .i64 0, .slice none 0 0, .int .i64 0, .int .i64 0, .int .i64 0, .bool false] 30)).setRow wr.heap.size #[.int .i64 11, .int .i64 p, .int .i64 6, .int .i64 1, .int .i64 (1 + m), .int .i64 0, .int .i64 63, .int .i64 0, .slice none 0 0, .int .i64 0, .int .i64 boot, .int .i64 0, .bool true]) := TB.below (by simp) (Nat.le_refl _)
          have HBB := Lib.hid BB
          have HW : word 6 6 boot pro (fM 6 boot p (1 + m) 63) = decide (pro ≤ 1 + m) := HW.out
          rcases hs with ⟨rfl, hs⟩ | ⟨hg, hs⟩
          · have S3 := Lib.hid (hs.out.past BB)
            clear hs hA TB BB
            by_cases hv : pro ≤ 1 + m
            · have HW := Lib.hid (HW.trans (decide_eq_true hv))
              have d1 : decide (pro ≤ 1 + m) = true := decide_eq_true hv
              have d2 : decide (1 + m > 0) = true := decide_eq_true (by omega)
              go_wp2_with (first | ((with_reducible show wpList _ _ _ ((⟨none, Op.store 30 (.tmp 15) _, _, _, _, _⟩ : Oper) :: _) _ _); go_must (refine wpList_store_row rfl 30 (.tmp 15) (.tmp 79) rfl wr.heap.size _ rfl rfl _ _ HA.out (by kernel_rfl) (by rfl) (by kernel_rfl) ?_)) | ((with_reducible show wpList _ _ _ ((⟨some 88, Op.load _ _, _, _, _, _⟩ : Oper) :: _) _ _); go_must (refine wpList_load_row rfl 30 (.tmp 15) rfl wr.heap.size rfl 30 #[.int .i64 11, .int .i64 p, .int .i64 6, .int .i64 1, .int .i64 (1 + m), .int .i64 0, .int .i64 63, .int .i64 0, .slice none 0 0, .int .i64 0, .int .i64 boot, .int .i64 0, .bool true] (0, 0) _ KB.out Try.underlying30 rfl (by kernel_rfl) ?_)))
              clear HA KB
              generalize ((wr.alloc (.cells #[.int .i64 0, .int .i64 0, .int .i64 0, .int .i64 0, .int .i64 0, .int .i64 0, .int .i64 0, .int .i64 0, .slice none 0 0, .int .i64 0, .int .i64 0, .int .i64 0, .bool false] 30)).setRow wr.heap.size #[.int .i64 11, .int .i64 p, .int .i64 6, .int .i64 1, .int .i64 (1 + m), .int .i64 0, .int .i64 63, .int .i64 0, .slice none 0 0, .int .i64 0, .int .i64 boot, .int .i64 0, .bool true]) = w3 at *
              refine (show Calls Try.prog 11 #[.pointer (some ⟨g, 0, none⟩), .agg #[.int .i64 11, .int .i64 p, .int .i64 6, .int .i64 1, .int .i64 (1 + m), .int .i64 0, .int .i64 63, .int .i64 0, .slice none 0 0, .int .i64 0, .int .i64 boot, .int .i64 0, .bool true]] w3 _ from S3.out.hear_yes (m := fM 6 boot p (1 + m) 63) (A := none) (c := 0) (Rd.nil _ _ _) ⟨by show _ ≤ 1 + m; omega, by show 1 + m ≤ _; omega⟩ (show (-9223372036854775808 : Int) ≤ 63 ∧ (63 : Int) ≤ 9223372036854775807 by decide) HW.out).mono ?_
              rintro e w4 ⟨rfl, s4, -, -⟩
              have S4 := Lib.hid s4
              clear s4 S3 HW
              go_wp2_with fail
              refine S4.out.got_yes.mono ?_
              simp only [mv, fM, List.length_nil]
              rintro e w5 ⟨A', c', rfl, -, b5⟩
              have S5 := S4.out.past b5
              have N5 := Lib.hid (show Blk (w5.alloc (.cells #[.int .i64 0, .int .i64 0, .int .i64 0, .int .i64 0, .int .i64 0, .int .i64 0, .int .i64 0, .int .i64 0, .slice none 0 0, .int .i64 0, .int .i64 0, .int .i64 0, .bool false] 30)) w5.heap.size 30 (mcs zeroM none 0) from Blk.new w5 #[.int .i64 0, .int .i64 0, .int .i64 0, .int .i64 0, .int .i64 0, .int .i64 0, .int .i64 0, .int .i64 0, .slice none 0 0, .int .i64 0, .int .i64 0, .int .i64 0, .bool false] 30)
              have M6 := Lib.hid (show Blk ((w5.alloc (.cells #[.int .i64 0, .int .i64 0, .int .i64 0, .int .i64 0, .int .i64 0, .int .i64 0, .int .i64 0, .int .i64 0, .slice none 0 0, .int .i64 0, .int .i64 0, .int .i64 0, .bool false] 30)).setRow w5.heap.size #[.int .i64 11, .int .i64 p, .int .i64 6, .int .i64 1, .int .i64 (1 + m), .int .i64 0, .int .i64 63, .int .i64 0, .slice A' 0 c', .int .i64 0, .int .i64 boot, .int .i64 0, .bool true]) w5.heap.size 30 (mcs (fM 6 boot p (1 + m) 63) A' c') from N5.out.row #[.int .i64 11, .int .i64 p, .int .i64 6, .int .i64 1, .int .i64 (1 + m), .int .i64 0, .int .i64 63, .int .i64 0, .slice A' 0 c', .int .i64 0, .int .i64 boot, .int .i64 0, .bool true])
              have f4 : ((w5.alloc (.cells #[.int .i64 0, .int .i64 0, .int .i64 0, .int .i64 0, .int .i64 0, .int .i64 0, .int .i64 0, .int .i64 0, .slice none 0 0, .int .i64 0, .int .i64 0, .int .i64 0, .bool false] 30)).setRow w5.heap.size #[.int .i64 11, .int .i64 p, .int .i64 6, .int .i64 1, .int .i64 (1 + m), .int .i64 0, .int .i64 63, .int .i64 0, .slice A' 0 c', .int .i64 0, .int .i64 boot, .int .i64 0, .bool true]).cell? ⟨w5.heap.size, 4, none⟩ = some (.int .i64 (1 + m)) := M6.out.cell (i := 4) rfl
              have b6 : Below w5.heap.size w5 ((w5.alloc (.cells #[.int .i64 0, .int .i64 0, .int .i64 0, .int .i64 0, .int .i64 0, .int .i64 0, .int .i64 0, .int .i64 0, .slice none 0 0, .int .i64 0, .int .i64 0, .int .i64 0, .bool false] 30)).setRow w5.heap.size #[.int .i64 11, .int .i64 p, .int .i64 6, .int .i64 1, .int .i64 (1 + m), .int .i64 0, .int .i64 63, .int .i64 0, .slice A' 0 c', .int .i64 0, .int .i64 boot, .int .i64 0, .bool true]) := (((Touch.of_below (S := [w5.heap.size]) ((Below.refl _ _).alloc (Nat.le_refl _) _)).trans (.of_grown (grown_row _ _ _))).below (by simp) (Nat.le_refl _))
              have S6 := Lib.hid (S5.past b6)
              clear b5 b6 S5 S4 M6
              go_wp2_with ((with_reducible show wpList _ _ _ ((⟨none, Op.store 30 (.tmp 17) _, _, _, _, _⟩ : Oper) :: _) _ _); go_must (refine wpList_store_row rfl 30 (.tmp 17) (.tmp 97) rfl w5.heap.size _ rfl rfl _ _ N5.out (by kernel_rfl) (by rfl) (by kernel_rfl) ?_))
              go_roundw
              case rel => exact ⟨i + 1, 1 + m, by omega, by omega, by go_num, by go_num, .inr ⟨by omega, Lib.hid ⟨p, S6.out⟩⟩⟩
              case measure => simp [intOf]; omega
            · have HW := Lib.hid (HW.trans (decide_eq_false hv))
              have d1 : decide (pro ≤ 1 + m) = false := decide_eq_false hv
              go_wp2_with (first | ((with_reducible show wpList _ _ _ ((⟨none, Op.store 30 (.tmp 15) _, _, _, _, _⟩ : Oper) :: _) _ _); go_must (refine wpList_store_row rfl 30 (.tmp 15) (.tmp 79) rfl wr.heap.size _ rfl rfl _ _ HA.out (by kernel_rfl) (by rfl) (by kernel_rfl) ?_)) | ((with_reducible show wpList _ _ _ ((⟨some 88, Op.load _ _, _, _, _, _⟩ : Oper) :: _) _ _); go_must (refine wpList_load_row rfl 30 (.tmp 15) rfl wr.heap.size rfl 30 #[.int .i64 11, .int .i64 p, .int .i64 6, .int .i64 1, .int .i64 (1 + m), .int .i64 0, .int .i64 63, .int .i64 0, .slice none 0 0, .int .i64 0, .int .i64 boot, .int .i64 0, .bool true] (0, 0) _ KB.out Try.underlying30 rfl (by kernel_rfl) ?_)))
              clear HA KB
              generalize ((wr.alloc (.cells #[.int .i64 0, .int .i64 0, .int .i64 0, .int .i64 0, .int .i64 0, .int .i64 0, .int .i64 0, .int .i64 0, .slice none 0 0, .int .i64 0, .int .i64 0, .int .i64 0, .bool false] 30)).setRow wr.heap.size #[.int .i64 11, .int .i64 p, .int .i64 6, .int .i64 1, .int .i64 (1 + m), .int .i64 0, .int .i64 63, .int .i64 0, .slice none 0 0, .int .i64 0, .int .i64 boot, .int .i64 0, .bool true]) = w3 at *
              refine (show Calls Try.prog 11 #[.pointer (some ⟨g, 0, none⟩), .agg #[.int .i64 11, .int .i64 p, .int .i64 6, .int .i64 1, .int .i64 (1 + m), .int .i64 0, .int .i64 63, .int .i64 0, .slice none 0 0, .int .i64 0, .int .i64 boot, .int .i64 0, .bool true]] w3 _ from S3.out.hear_no (m := fM 6 boot p (1 + m) 63) (A := none) (c := 0) (Rd.nil _ _ _) ⟨by show _ ≤ 1 + m; omega, by show 1 + m ≤ _; omega⟩ (show (-9223372036854775808 : Int) ≤ 63 ∧ (63 : Int) ≤ 9223372036854775807 by decide) (.inr HW.out)).mono ?_
              rintro e w4 ⟨rfl, b4⟩
              have S4 := Lib.hid (S3.out.past b4)
              clear b4 S3 HW
              go_wp2_with fail
              refine S4.out.got_no.mono ?_
              simp only [mv, zeroM]
              rintro e w5 ⟨rfl, b5⟩
              have S5 := S4.out.past b5
              have N5 := Lib.hid (show Blk (w5.alloc (.cells #[.int .i64 0, .int .i64 0, .int .i64 0, .int .i64 0, .int .i64 0, .int .i64 0, .int .i64 0, .int .i64 0, .slice none 0 0, .int .i64 0, .int .i64 0, .int .i64 0, .bool false] 30)) w5.heap.size 30 (mcs zeroM none 0) from Blk.new w5 #[.int .i64 0, .int .i64 0, .int .i64 0, .int .i64 0, .int .i64 0, .int .i64 0, .int .i64 0, .int .i64 0, .slice none 0 0, .int .i64 0, .int .i64 0, .int .i64 0, .bool false] 30)
              have b6 : Below w5.heap.size w5 ((w5.alloc (.cells #[.int .i64 0, .int .i64 0, .int .i64 0, .int .i64 0, .int .i64 0, .int .i64 0, .int .i64 0, .int .i64 0, .slice none 0 0, .int .i64 0, .int .i64 0, .int .i64 0, .bool false] 30)).setRow w5.heap.size #[.int .i64 0, .int .i64 0, .int .i64 0, .int .i64 0, .int .i64 0, .int .i64 0, .int .i64 0, .int .i64 0, .slice none 0 0, .int .i64 0, .int .i64 0, .int .i64 0, .bool false]) := (((Touch.of_below (S := [w5.heap.size]) ((Below.refl _ _).alloc (Nat.le_refl _) _)).trans (.of_grown (grown_row _ _ _))).below (by simp) (Nat.le_refl _))
              have S6 := Lib.hid (S5.past b6)
              clear b5 b6 S5 S4
              go_wp2_with ((with_reducible show wpList _ _ _ ((⟨none, Op.store 30 (.tmp 17) _, _, _, _, _⟩ : Oper) :: _) _ _); go_must (refine wpList_store_row rfl 30 (.tmp 17) (.tmp 97) rfl w5.heap.size _ rfl rfl _ _ N5.out (by kernel_rfl) (by rfl) (by kernel_rfl) ?_))
              go_roundw
              case rel => exact ⟨i + 1, 0, by omega, by omega, by go_num, by go_num, .inl ⟨rfl, S6⟩⟩
              case measure => simp [intOf]; omega
          · have S3 := Lib.hid (show ∃ p2, Sj w ((wr.alloc (.cells #[.int .i64 0, .int .i64 0, .int .i64 0, .int .i64 0, .int .i64 0, .int .i64 0, .int .i64 0, .int .i64 0, .slice none 0 0, .int .i64 0, .int .i64 0, .int .i64 0, .bool false] 30)).setRow wr.heap.size #[.int .i64 11, .int .i64 p, .int .i64 6, .int .i64 1, .int .i64 (1 + m), .int .i64 0, .int .i64 63, .int .i64 0, .slice none 0 0, .int .i64 0, .int .i64 boot, .int .i64 0, .bool true]) g 6 6 boot pro (some (fM 6 boot p2 got 63)) from by
              obtain ⟨p2, h⟩ := hs.out
              exact ⟨p2, h.past BB⟩)
            clear hs hA TB BB HW
            obtain ⟨p3, S3⟩ := S3.out
            have S3 := Lib.hid S3
            have e0 : (got == 0) = false := by simpa using (show got ≠ 0 by omega)
            go_wp2_with (first | ((with_reducible show wpList _ _ _ ((⟨none, Op.store 30 (.tmp 15) _, _, _, _, _⟩ : Oper) :: _) _ _); go_must (refine wpList_store_row rfl 30 (.tmp 15) (.tmp 79) rfl wr.heap.size _ rfl rfl _ _ HA.out (by kernel_rfl) (by rfl) (by kernel_rfl) ?_)) | ((with_reducible show wpList _ _ _ ((⟨some 88, Op.load _ _, _, _, _, _⟩ : Oper) :: _) _ _); go_must (refine wpList_load_row rfl 30 (.tmp 15) rfl wr.heap.size rfl 30 #[.int .i64 11, .int .i64 p, .int .i64 6, .int .i64 1, .int .i64 (1 + m), .int .i64 0, .int .i64 63, .int .i64 0, .slice none 0 0, .int .i64 0, .int .i64 boot, .int .i64 0, .bool true] (0, 0) _ KB.out Try.underlying30 rfl (by kernel_rfl) ?_)))
            clear HA KB
            generalize ((wr.alloc (.cells #[.int .i64 0, .int .i64 0, .int .i64 0, .int .i64 0, .int .i64 0, .int .i64 0, .int .i64 0, .int .i64 0, .slice none 0 0, .int .i64 0, .int .i64 0, .int .i64 0, .bool false] 30)).setRow wr.heap.size #[.int .i64 11, .int .i64 p, .int .i64 6, .int .i64 1, .int .i64 (1 + m), .int .i64 0, .int .i64 63, .int .i64 0, .slice none 0 0, .int .i64 0, .int .i64 boot, .int .i64 0, .bool true]) = w3 at *
            refine (show Calls Try.prog 11 #[.pointer (some ⟨g, 0, none⟩), .agg #[.int .i64 11, .int .i64 p, .int .i64 6, .int .i64 1, .int .i64 (1 + m), .int .i64 0, .int .i64 63, .int .i64 0, .slice none 0 0, .int .i64 0, .int .i64 boot, .int .i64 0, .bool true]] w3 _ from S3.out.hear_no (m := fM 6 boot p (1 + m) 63) (A := none) (c := 0) (Rd.nil _ _ _) ⟨by show _ ≤ 1 + m; omega, by show 1 + m ≤ _; omega⟩ (show (-9223372036854775808 : Int) ≤ 63 ∧ (63 : Int) ≤ 9223372036854775807 by decide) (.inl rfl)).mono ?_
            rintro e w4 ⟨rfl, b4⟩
            have S4 := Lib.hid (S3.out.past b4)
            clear b4 S3
            go_wp2_with fail
            refine S4.out.got_yes.mono ?_
            simp only [mv, fM, List.length_nil]
            rintro e w5 ⟨A', c', rfl, -, b5⟩
            have S5 := S4.out.past b5
            have N5 := Lib.hid (show Blk (w5.alloc (.cells #[.int .i64 0, .int .i64 0, .int .i64 0, .int .i64 0, .int .i64 0, .int .i64 0, .int .i64 0, .int .i64 0, .slice none 0 0, .int .i64 0, .int .i64 0, .int .i64 0, .bool false] 30)) w5.heap.size 30 (mcs zeroM none 0) from Blk.new w5 #[.int .i64 0, .int .i64 0, .int .i64 0, .int .i64 0, .int .i64 0, .int .i64 0, .int .i64 0, .int .i64 0, .slice none 0 0, .int .i64 0, .int .i64 0, .int .i64 0, .bool false] 30)
            have M6 := Lib.hid (show Blk ((w5.alloc (.cells #[.int .i64 0, .int .i64 0, .int .i64 0, .int .i64 0, .int .i64 0, .int .i64 0, .int .i64 0, .int .i64 0, .slice none 0 0, .int .i64 0, .int .i64 0, .int .i64 0, .bool false] 30)).setRow w5.heap.size #[.int .i64 11, .int .i64 p3, .int .i64 6, .int .i64 1, .int .i64 got, .int .i64 0, .int .i64 63, .int .i64 0, .slice A' 0 c', .int .i64 0, .int .i64 boot, .int .i64 0, .bool true]) w5.heap.size 30 (mcs (fM 6 boot p3 got 63) A' c') from N5.out.row #[.int .i64 11, .int .i64 p3, .int .i64 6, .int .i64 1, .int .i64 got, .int .i64 0, .int .i64 63, .int .i64 0, .slice A' 0 c', .int .i64 0, .int .i64 boot, .int .i64 0, .bool true])
            have f4 : ((w5.alloc (.cells #[.int .i64 0, .int .i64 0, .int .i64 0, .int .i64 0, .int .i64 0, .int .i64 0, .int .i64 0, .int .i64 0, .slice none 0 0, .int .i64 0, .int .i64 0, .int .i64 0, .bool false] 30)).setRow w5.heap.size #[.int .i64 11, .int .i64 p3, .int .i64 6, .int .i64 1, .int .i64 got, .int .i64 0, .int .i64 63, .int .i64 0, .slice A' 0 c', .int .i64 0, .int .i64 boot, .int .i64 0, .bool true]).cell? ⟨w5.heap.size, 4, none⟩ = some (.int .i64 (got)) := M6.out.cell (i := 4) rfl
            have b6 : Below w5.heap.size w5 ((w5.alloc (.cells #[.int .i64 0, .int .i64 0, .int .i64 0, .int .i64 0, .int .i64 0, .int .i64 0, .int .i64 0, .int .i64 0, .slice none 0 0, .int .i64 0, .int .i64 0, .int .i64 0, .bool false] 30)).setRow w5.heap.size #[.int .i64 11, .int .i64 p3, .int .i64 6, .int .i64 1, .int .i64 got, .int .i64 0, .int .i64 63, .int .i64 0, .slice A' 0 c', .int .i64 0, .int .i64 boot, .int .i64 0, .bool true]) := (((Touch.of_below (S := [w5.heap.size]) ((Below.refl _ _).alloc (Nat.le_refl _) _)).trans (.of_grown (grown_row _ _ _))).below (by simp) (Nat.le_refl _))
            have S6 := Lib.hid (S5.past b6)
            clear b5 b6 S5 S4 M6
            go_wp2_with ((with_reducible show wpList _ _ _ ((⟨none, Op.store 30 (.tmp 17) _, _, _, _, _⟩ : Oper) :: _) _ _); go_must (refine wpList_store_row rfl 30 (.tmp 17) (.tmp 97) rfl w5.heap.size _ rfl rfl _ _ N5.out (by kernel_rfl) (by rfl) (by kernel_rfl) ?_))
            go_roundw
            case rel => exact ⟨i + 1, got, by omega, by omega, by go_num, by go_num, .inr ⟨hg, Lib.hid ⟨p3, S6.out⟩⟩⟩
            case measure => simp [intOf]; omega
      · obtain rfl : i = 20 := by omega
        go_wp2_with fail
        go_ret
        exact ⟨rfl, HB.out⟩
    · obtain rfl : i = l := by omega
      go_wp2_with fail
      go_ret
      exact ⟨rfl, HB.out⟩
end Go.Proofs.Ytnpobagipgephaa
