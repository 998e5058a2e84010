/- The walks of LogNone, LogFull. -/
import Derived.Test.YtnhdehbpcgeceaaLogF
namespace Go.Proofs.Ytnhdehbpcgeceaa
open Go.RowKit

theorem Len_nil (w : World) : Calls Try.prog 22 #[.pointer none] w fun x w' => x = .returned (.int .i64 0) ∧ w = w' := by
  go_enter Try.func22, Try.ntmps22
  go_wp2_with fail
  go_ret
  exact ⟨rfl, rfl⟩
set_option maxHeartbeats 4000000 in
set_option maxRecDepth 100000 in
theorem At_nil (w : World) : Calls Try.prog 23 #[.pointer none, .int .i64 1] w fun x w' => x = .returned (.tuple #[ev zeroE, .bool false]) ∧ Below w.heap.size w w' := by
  have b0 := (Below.refl w.heap.size w).alloc (Nat.le_refl _) (.cells #[.int .i64 0, .int .i64 0, .int .i64 0, .int .i64 0, .int .i64 0, .int .i64 0, .string ⟨#[]⟩] 34)
  have Z := Blk.newEnt w 34 zeroE
  have hZ : Blk (w.alloc (.cells #[.int .i64 0, .int .i64 0, .int .i64 0, .int .i64 0, .int .i64 0, .int .i64 0, .string ⟨#[]⟩] 34)) w.heap.size 34 (ecs zeroE) := Z
  have Zr := hZ.row #[.int .i64 0, .int .i64 0, .int .i64 0, .int .i64 0, .int .i64 0, .int .i64 0, .string ⟨#[]⟩]
  have BR := grown_row (w.alloc (.cells #[.int .i64 0, .int .i64 0, .int .i64 0, .int .i64 0, .int .i64 0, .int .i64 0, .string ⟨#[]⟩] 34)) w.heap.size #[.int .i64 0, .int .i64 0, .int .i64 0, .int .i64 0, .int .i64 0, .int .i64 0, .string ⟨#[]⟩]
  have B2 := Lib.hid (b0.trans (grown_below BR (Nat.le_refl _) b0.size))
  have Z2 := Lib.hid Zr
  clear Z Zr BR
  go_enter Try.func23, Try.ntmps23
  go_wp2_with fail
  refine (Len_nil (w.alloc (.cells #[.int .i64 0, .int .i64 0, .int .i64 0, .int .i64 0, .int .i64 0, .int .i64 0, .string ⟨#[]⟩] 34))).mono ?_
  rintro x w1 ⟨rfl, rfl⟩
  go_wp2_with ((with_reducible show wpList _ _ _ ((⟨none, Op.store 34 (.tmp 4) _, _, _, _, _⟩ : Oper) :: _) _ _); go_must (refine wpList_store_row rfl 34 (.tmp 4) _ rfl w.heap.size _ rfl rfl _ _ hZ (by kernel_rfl) (by rfl) (by kernel_rfl) ?_))
  refine bodyPost_ret (v := .tuple #[ev zeroE, .bool false]) (results_rowB (p := 4) (u := 5) rfl _ _ w.heap.size _ _ _ _ rfl rfl Z2.out Try.underlying34 rfl (by kernel_rfl)) rfl ⟨rfl, B2.out⟩
theorem Add_nil (w : World) (e : Ent) : Calls Try.prog 16 #[.pointer none, ev e] w fun x w' => x = .returned (.bool false) ∧ Below w.heap.size w w' := by
  have b0 := (Below.refl w.heap.size w).alloc (Nat.le_refl _) (.cells #[.int .i64 e.fr, .int .i64 e.boot, .int .i64 e.seq, .int .i64 e.ord, .int .i64 e.lev, .int .i64 e.stamp, .string e.data] 34)
  show Calls _ _ #[_, .agg #[.int .i64 e.fr, .int .i64 e.boot, .int .i64 e.seq, .int .i64 e.ord, .int .i64 e.lev, .int .i64 e.stamp, .string e.data]] _ _
  go_enter Try.func16, Try.ntmps16
  go_wp2_with fail
  go_ret
  exact ⟨rfl, b0⟩
theorem Has_nil (w : World) (e : Ent) : Calls Try.prog 24 #[.pointer none, ev e] w fun x w' => x = .returned (.bool false) ∧ Below w.heap.size w w' := by
  have b0 := (Below.refl w.heap.size w).alloc (Nat.le_refl _) (.cells #[.int .i64 e.fr, .int .i64 e.boot, .int .i64 e.seq, .int .i64 e.ord, .int .i64 e.lev, .int .i64 e.stamp, .string e.data] 34)
  show Calls _ _ #[_, .agg #[.int .i64 e.fr, .int .i64 e.boot, .int .i64 e.seq, .int .i64 e.ord, .int .i64 e.lev, .int .i64 e.stamp, .string e.data]] _ _
  go_enter Try.func24, Try.ntmps24
  go_wp2_with fail
  go_ret
  exact ⟨rfl, b0⟩
theorem Put_nil (w : World) : Calls Try.prog 18 #[.pointer none, .int .i64 0, .slice none 0 0] w fun x w' => x = .returned (.bool false) ∧ w = w' := by
  go_enter Try.func18, Try.ntmps18
  go_wp2_with fail
  go_ret
  exact ⟨rfl, rfl⟩
theorem From_nil (w : World) : Calls Try.prog 25 #[.pointer none, .int .i64 0] w fun x w' => x = .returned (.slice none 0 0) ∧ w = w' := by
  go_enter Try.func25, Try.ntmps25
  go_wp2_with fail
  go_ret
  exact ⟨rfl, rfl⟩

set_option maxHeartbeats 4000000 in
set_option maxRecDepth 100000 in
theorem LogNone_w (w : World) :
    Calls Try.prog 7 #[] w fun e w' => e = .returned (.bool true) ∧ Below w.heap.size w w' := by
  go_enter Try.func7, Try.ntmps7
  go_wp2_with fail
  refine (At_nil w).mono ?_
  rintro x w1 ⟨rfl, b1⟩
  have b2 := b1.trans (((Below.refl w1.heap.size w1).alloc (Nat.le_refl _) (.cells #[.int .i64 0, .int .i64 0, .int .i64 0, .int .i64 0, .int .i64 0, .int .i64 0, .string ⟨#[]⟩] 34)).mono b1.size)
  have B2 := Lib.hid b2
  clear b1 b2
  simp only [ev, zeroE]
  go_wp2_with fail
  generalize (w1.alloc (.cells #[.int .i64 0, .int .i64 0, .int .i64 0, .int .i64 0, .int .i64 0, .int .i64 0, .string ⟨#[]⟩] 34)) = w2 at *
  refine (begun_c w2).mono ?_
  rintro x w3 ⟨rfl, b3⟩
  have B3 := Lib.hid (B2.out.trans (b3.mono B2.out.size))
  clear b3 B2
  go_wp2_with fail
  refine (Len_nil w3).mono ?_
  rintro x w' ⟨rfl, rfl⟩
  go_wp2_with fail
  refine (Add_nil w3 ⟨1, 1, 1, 0, 0, 0, ⟨#[]⟩⟩).mono ?_
  rintro x w4 ⟨rfl, b4⟩
  have B4 := Lib.hid (B3.out.trans (b4.mono B3.out.size))
  clear b4 B3
  go_wp2_with fail
  refine (Has_nil w4 zeroE).mono ?_
  rintro x w5 ⟨rfl, b5⟩
  have B5 := Lib.hid (B4.out.trans (b5.mono B4.out.size))
  clear b5 B4
  go_wp2_with fail
  refine (Put_nil w5).mono ?_
  rintro x w' ⟨rfl, rfl⟩
  go_wp2_with fail
  refine (From_nil w5).mono ?_
  rintro x w' ⟨rfl, rfl⟩
  go_wp2_with fail
  go_ret
  exact ⟨rfl, B5.out⟩

/-- The entry of number i, by one start of one process; the log of the first ones. -/
def seqE (i : Int) : Ent := ⟨1, 1, i, 0, 0, 0, ⟨#[]⟩⟩
def LF (i : Nat) : List Ent := (List.range i).map fun (k : Nat) => seqE ((k : Int) + 1)
theorem LF_len (i : Nat) : (LF i).length = i := by simp [LF]
theorem LF_can0 : (List.range 60).all (fun i => PLog.can (LF i) (seqE ((i : Int) + 1))) = true := by decide +kernel
theorem LF_can {i : Nat} (h : i < 60) : PLog.can (LF i) (seqE ((i : Int) + 1)) = true := by
  have := List.all_eq_true.1 LF_can0 i (List.mem_range.2 h)
  exact this
theorem LF_full (e : Ent) : PLog.can (LF 60) e = false := by
  unfold PLog.can
  rw [LF_len]; simp
theorem LF_add {i : Nat} (h : i < 60) : PLog.add (LF i) (seqE ((i : Int) + 1)) = LF (i + 1) := by
  unfold PLog.add; rw [LF_can h]
  show LF i ++ [seqE ((i : Int) + 1)] = LF (i + 1)
  unfold LF
  rw [List.range_succ, List.map_append]; rfl
theorem LF_add_full (e : Ent) : PLog.add (LF 60) e = LF 60 := by unfold PLog.add; rw [LF_full]; rfl

set_option maxHeartbeats 4000000 in
set_option maxRecDepth 100000 in
theorem LogFull_bad (w : World) (n : Int) (h : n < 0 ∨ ¬ n < 0 ∧ 70 < n) :
    Calls Try.prog 6 #[.int .i64 n] w fun e w' => e = .returned (.bool true) ∧ Below w.heap.size w w' := by
  rcases h with q1 | ⟨q1, q2⟩
  all_goals
    go_enter Try.func6, Try.ntmps6
    go_wp2_with fail
    refine (begun_c w).mono ?_
    rintro x w1 ⟨rfl, b1⟩
    go_wp2_with fail
    go_ret
    exact ⟨rfl, b1⟩

set_option maxHeartbeats 4000000 in
set_option maxRecDepth 100000 in
theorem LogFull_w (w : World) (n : Int) :
    Calls Try.prog 6 #[.int .i64 n] w fun e w' => e = .returned (.bool true) ∧ Below w.heap.size w w' := by
  by_cases hb : n < 0 ∨ ¬ n < 0 ∧ 70 < n
  · exact LogFull_bad w n hb
  obtain ⟨m, rfl⟩ := Int.eq_ofNat_of_zero_le (show 0 ≤ n by omega)
  have hm : m ≤ 70 := by omega
  have q1 : ¬ ((m : Int) < 0) := by omega
  have q2 : ¬ ((70 : Int) < (m : Int)) := by omega
  clear hb
  go_enter Try.func6, Try.ntmps6
  go_wp2_with fail
  refine (begun_c w).mono ?_
  rintro x w1 ⟨rfl, b1⟩
  go_wp2_with fail
  refine (New_c w1 0 none 0 0 [] (Rd.nil _ _ _)).mono ?_
  rintro x w2 ⟨g, F, rfl, l2, f2, b2⟩
  have B2 := Lib.hid (b1.trans (b2.mono b1.size))
  have L2 := Lib.hid (show Lg w2 g F (LF (min 0 60)) from l2)
  have HF := Lib.hid (show ∀ k ∈ F, w.heap.size ≤ k from fun k hk => Nat.le_trans b1.size (f2 k hk))
  clear b1 b2 l2 f2
  go_wp2_with fail
  go_loopw [5] (fun s5 wr => ∃ (i : Nat) (F' : List Nat), s5 = .int .i64 i ∧ i ≤ m ∧ Hid (Lg wr g F' (LF (min i 60))) ∧ Hid (∀ k ∈ F', w.heap.size ≤ k) ∧ Hid (Below w.heap.size w wr)) (fun s5 _ => m - (intOf s5).toNat)
  case atStart => exact ⟨0, F, rfl, by omega, L2, HF, B2⟩
  case round =>
    clear L2 HF B2
    obtain ⟨i, F', rfl, hi, HL, HF, BT⟩ := hrel
    by_cases hin : i < m
    · by_cases h60 : i < 60
      · have j60 : (i : Int) < 60 := by omega
        have HC := Lib.hid (show PLog.can (LF (min i 60)) (seqE ((i : Int) + 1)) = true by rw [Nat.min_eq_left (by omega)]; exact LF_can h60)
        have HA := Lib.hid (show PLog.add (LF (min i 60)) (seqE ((i : Int) + 1)) = LF (min (i + 1) 60) by rw [Nat.min_eq_left (by omega), Nat.min_eq_left (by omega)]; exact LF_add h60)
        go_wp2_with fail
        refine (Add_c wr g F' _ HL.out (seqE ((i : Int) + 1))).mono ?_
        rw [HC.out, HA.out]
        rintro x w3 ⟨rfl, ⟨⟨F3, l3, f3⟩, t3⟩⟩
        have L3 := Lib.hid l3
        have HF3 := Lib.hid (show ∀ k ∈ F3, w.heap.size ≤ k from fun k hk => (f3 k hk).elim (HF.out k) (fun h => Nat.le_trans BT.out.size h))
        have B3 := Lib.hid (BT.out.trans (t3.below HF.out BT.out.size))
        clear l3 f3 t3
        go_wp2_with fail
        go_roundw
        case rel => exact ⟨i + 1, F3, by go_num, by omega, L3, HF3, B3⟩
        case measure => simp [intOf]; omega
      · have j60 : ¬ (i : Int) < 60 := by omega
        have HC := Lib.hid (show PLog.can (LF (min i 60)) (seqE ((i : Int) + 1)) = false by rw [Nat.min_eq_right (by omega)]; exact LF_full _)
        have HA := Lib.hid (show PLog.add (LF (min i 60)) (seqE ((i : Int) + 1)) = LF (min (i + 1) 60) by rw [Nat.min_eq_right (by omega), Nat.min_eq_right (by omega)]; exact LF_add_full _)
        go_wp2_with fail
        refine (Add_c wr g F' _ HL.out (seqE ((i : Int) + 1))).mono ?_
        rw [HC.out, HA.out]
        rintro x w3 ⟨rfl, ⟨⟨F3, l3, f3⟩, t3⟩⟩
        have L3 := Lib.hid l3
        have HF3 := Lib.hid (show ∀ k ∈ F3, w.heap.size ≤ k from fun k hk => (f3 k hk).elim (HF.out k) (fun h => Nat.le_trans BT.out.size h))
        have B3 := Lib.hid (BT.out.trans (t3.below HF.out BT.out.size))
        clear l3 f3 t3
        go_wp2_with fail
        go_roundw
        case rel => exact ⟨i + 1, F3, by go_num, by omega, L3, HF3, B3⟩
        case measure => simp [intOf]; omega
    · obtain rfl : i = m := by omega
      go_wp2_with fail
      refine (Len_c wr g F' _ HL.out).mono ?_
      rw [LF_len]
      rintro x w3 ⟨rfl, rfl⟩
      go_wp2_with ((with_reducible show wpList _ _ _ ((⟨some 32, Op.call _, _, _, _, _⟩ : Oper) :: _) _ _); (refine wpList_min rfl _ _ _ rfl (i) (60) rfl rfl ?_))
      go_ret
      exact ⟨rfl, BT.out⟩
end Go.Proofs.Ytnhdehbpcgeceaa
