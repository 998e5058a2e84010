/- The walk of WheelAgain. -/
import Derived.Test.YtnpdhddnlcpaiaaLaw7B
namespace Go.Proofs.Ytnpdhddnlcpaiaa
open Go.RowKit

theorem due_none {T : List (Int × Bool)} {now : Int} : ∀ {k : Nat}, (∀ j, j < k → PWheel.off T now j = false) → PWheel.due T now k = []
  | 0, _ => rfl
  | k + 1, h => by
    unfold PWheel.due
    rw [h k (by omega), due_none fun j hj => h j (by omega)]; rfl
theorem due_single {T : List (Int × Bool)} {now : Int} {i : Nat} (hi : PWheel.off T now i = true) : ∀ {k : Nat}, (∀ j, j < k → j ≠ i → PWheel.off T now j = false) → PWheel.due T now k = if i < k then [(i : Int)] else []
  | 0, _ => rfl
  | k + 1, h => by
    unfold PWheel.due
    rw [due_single hi fun j hj hn => h j (by omega) hn]
    by_cases e : k = i
    · subst e; rw [hi]; simp
    · rw [h k (by omega) e]
      by_cases h1 : i < k
      · simp [h1, show i < k + 1 by omega]
      · simp [h1, show ¬ i < k + 1 by omega]

/-- A number's last bits. -/
theorem and_low (x : Int) (m : Nat) (hm : m < 4611686018427387904) : 0 ≤ bits .and .i64 x (m : Int) ∧ bits .and .i64 x (m : Int) ≤ m := by
  have h1 : (BitVec.ofInt 64 (m : Int)).toNat = m := by rw [BitVec.toNat_ofInt]; omega
  have h2 : (BitVec.ofInt 64 x &&& BitVec.ofInt 64 (m : Int)).toNat ≤ m := by
    rw [BitVec.toNat_and, h1]; exact Nat.and_le_right
  have e : bits .and .i64 x (m : Int) = IntKind.i64.wrap ((BitVec.ofInt 64 x &&& BitVec.ofInt 64 (m : Int)).toNat : Nat) := rfl
  rw [e, IntKind.wrap_i64]
  omega

/-- One timer alone: seven. -/
def one (v : Int) : List (Int × Bool) := PWheel.zero.set 7 (v, true)
theorem one_tm (v : Int) (j : Nat) : PWheel.tm (one v) j = if 7 = j then (v, true) else (0, false) := by
  unfold one
  rw [PWheel.tm_set _ _ _ _ (by simp [PWheel.zero]), PWheel.tm_zero]
theorem one_off (v to_ : Int) (j : Nat) : PWheel.off (one v) to_ j = (decide (7 = j) && decide (v ≤ to_)) := by
  unfold PWheel.off
  rw [one_tm]
  by_cases h : 7 = j
  · simp [h]
  · simp [h]
theorem one_cnt (v : Int) : PWheel.cnt (one v) 64 = 1 := by
  have : ∀ k, PWheel.cnt (one v) k = if 7 < k then 1 else 0 := by
    intro k
    induction k with
    | zero => rfl
    | succ k ih =>
      unfold PWheel.cnt
      rw [ih, one_tm]
      by_cases h : 7 = k
      · subst h; simp
      · by_cases h1 : 7 < k
        · simp [h1, h, show 7 < k + 1 by omega]
        · simp [h1, h, show ¬ 7 < k + 1 by omega]
  exact this 64
theorem one_late {v to_ now : Int} (h : to_ < v) : PWheel.goD (one v) now to_ = [] := by
  unfold PWheel.goD
  split
  · refine due_none fun j _ => ?_
    rw [one_off]; simp; omega
  · rfl
theorem one_off_at {v now : Int} (h1 : 0 ≤ v) (h2 : v ≤ 1099511627776) (hn : now ≤ v) : PWheel.goD (one v) now v = [7] := by
  unfold PWheel.goD
  rw [if_pos (by simp [PWheel.goes, PWheel.isT]; omega), due_single (i := 7) (by rw [one_off]; simp) (fun j _ hj => by rw [one_off]; simp; omega)]
  rfl
theorem one_gone {v now to_ : Int} : PWheel.goD (PWheel.clr (one v) [7]) now to_ = [] := by
  unfold PWheel.goD
  split
  · refine due_none fun j _ => ?_
    unfold PWheel.off
    rw [PWheel.tm_clr _ _ _ (by simp), one_tm]
    by_cases h : 7 = j
    · subst h; simp
    · rw [if_neg h]; split <;> simp
  · rfl
theorem zero_go {now to_ : Int} : PWheel.goD PWheel.zero now to_ = [] := by
  unfold PWheel.goD
  split
  · refine due_none fun j _ => ?_
    unfold PWheel.off
    rw [PWheel.tm_zero]; simp
  · rfl
theorem set_one {T : List (Int × Bool)} {v : Int} (hT : T = PWheel.zero ∨ ∃ u, T = one u) (h1 : 0 ≤ v) (h2 : v ≤ 1099511627776) : PWheel.setE 7 v = 0 ∧ PWheel.setT T 7 v = one v := by
  have gt : PWheel.isT v = true := by simp [PWheel.isT]; omega
  refine ⟨PWheel.setE_in rfl gt, ?_⟩
  rw [PWheel.setT_in rfl gt]
  rcases hT with rfl | ⟨u, rfl⟩
  · rfl
  · unfold one; rw [show (7 : Int).toNat = 7 from rfl, List.set_set]

set_option maxHeartbeats 3200000 in
set_option maxRecDepth 100000 in
theorem WheelAgain_w (w : World) (A : Option Addr) (c n : Nat) (l : List Int) (h0 : Rd w w.heap.size A c 1 n (is l)) :
    Calls Try.prog 7 #[.slice A n c] w fun e w' => e = .returned (.bool true) ∧ Below w.heap.size w w' := by
  go_enter Try.func7, Try.ntmps7
  go_wp2_with fail
  refine (begun_c w).mono ?_
  rintro e w1 ⟨rfl, b1⟩
  go_wp2_with fail
  refine (new_c w1 0).mono ?_
  rw [show PWheel.newT 0 = 0 from rfl]
  rintro e w2 ⟨rfl, W2, b2⟩
  have B2 := Lib.hid (b1.trans (b2.mono b1.size))
  have hg1 : w.heap.size ≤ w1.heap.size := b1.size
  have W2' := Lib.hid W2
  have H0 := Lib.hid h0
  clear h0 b1 b2 W2
  go_wp2_with fail
  go_loopw [5, 6] (fun s5 s6 wr => ∃ (i : Nat) (v : Int) (T : List (Int × Bool)), i ≤ n ∧ i ≤ 20 ∧ s6 = .int .i64 i ∧ s5 = .int .i64 v ∧ (v = -1 ∧ T = PWheel.zero ∨ 1 ≤ v ∧ v ≤ 1024 ∧ T = one v) ∧ Hid (Wl wr w1.heap.size 0 T) ∧ Hid (Below w.heap.size w wr)) (fun _ s6 _ => n - (intOf s6).toNat)
  case atStart => exact ⟨0, -1, _, by omega, by omega, rfl, rfl, .inl ⟨rfl, rfl⟩, W2', B2⟩
  case round =>
    clear W2' B2
    obtain ⟨i, v, T, hin, hi20, rfl, rfl, hv, WT, BT⟩ := hrel
    by_cases hi : i < n
    · by_cases hi2 : i < 20
      · have hr := (H0.out.below BT.out)
        obtain ⟨b, o, x, rfl, c0, -, -⟩ := hr.int hi
        clear hr
        obtain ⟨m, hm⟩ : ∃ m, bits .and .i64 x 1023 = m := ⟨_, rfl⟩
        obtain ⟨m0, m1⟩ : 0 ≤ m ∧ m ≤ 1023 := by rw [← hm]; exact and_low x 1023 (by decide)
        obtain ⟨e1, e2⟩ := set_one (T := T) (v := 1 + m) (by rcases hv with h | h; exact .inl h.2; exact .inr ⟨v, h.2.2⟩) (by omega) (by omega)
        have HE := Lib.hid (And.intro e1 e2)
        clear e1 e2
        go_wp2_with fail
        refine (set_c wr _ _ _ WT.out 7 (1 + m)).mono ?_
        rw [HE.out.1, HE.out.2]
        rintro e w3 ⟨rfl, W3, t3⟩
        have B3 := Lib.hid (BT.out.trans (t3.below (by simp; exact hg1) BT.out.size))
        have W3' := Lib.hid W3
        clear c0 t3 W3
        go_wp2_with fail
        refine (len_c w3 _ _ _ W3'.out).mono ?_
        rw [one_cnt]
        rintro e w4 ⟨rfl, b4⟩
        have W4 := Lib.hid (W3'.out.past b4)
        have B4 := Lib.hid (B3.out.trans (b4.mono B3.out.size))
        clear b4 hm
        go_wp2_with fail
        go_roundw
        case rel => exact ⟨i + 1, 1 + m, _, by omega, by omega, by go_num, rfl, .inr ⟨by omega, by omega, rfl⟩, W4, B4⟩
        case measure => simp [intOf]; omega
      · rcases hv with ⟨rfl, rfl⟩ | ⟨v1, v2, rfl⟩
        · go_wp2_with fail
          refine (go_c wr _ _ 5000 _ WT.out).mono ?_
          rintro e w3 ⟨A3, n3, c3, M, rfl, hn, p3, s3, o3, W3, t3⟩
          rw [zero_go] at p3
          obtain rfl := List.perm_nil.1 p3
          obtain rfl : n3 = 0 := hn
          have B3 := Lib.hid (BT.out.trans (t3.below (by simp; exact hg1) BT.out.size))
          clear p3 s3 o3 W3 t3
          go_wp2_with fail
          go_ret
          exact ⟨rfl, B3.out⟩
        · have HL := Lib.hid (And.intro (one_late (v := v) (to_ := v - 1) (now := 0) (by omega)) (And.intro (one_off_at (v := v) (now := v - 1) (by omega) (by omega) (by omega)) (show PWheel.goN 0 (v - 1) = v - 1 by simp [PWheel.goN, PWheel.goes, PWheel.isT]; omega)))
          have hv0 : ¬ v < 0 := by omega
          go_wp2_with fail
          refine (go_c wr _ _ (v - 1) _ WT.out).mono ?_
          rintro e w3 ⟨A3, n3, c3, M, rfl, hn, p3, s3, o3, W3, t3⟩
          rw [HL.out.1] at p3
          obtain rfl := List.perm_nil.1 p3
          obtain rfl : n3 = 0 := hn
          rw [HL.out.2.2, show PWheel.clr (one v) [] = one v from rfl] at W3
          have B3 := Lib.hid (BT.out.trans (t3.below (by simp; exact hg1) BT.out.size))
          have W3' := Lib.hid W3
          clear p3 s3 o3 W3 t3
          go_wp2_with fail
          refine (go_c w3 _ _ v _ W3'.out).mono ?_
          rintro e w4 ⟨A4, n4, c4, M, rfl, hn, p4, s4, o4, W4, t4⟩
          rw [HL.out.2.1] at p4
          obtain rfl := List.perm_singleton.1 p4
          obtain rfl : n4 = 1 := hn
          have B4 := Lib.hid (B3.out.trans (t4.below (by simp; exact hg1) B3.out.size))
          have W4' := Lib.hid W4
          obtain ⟨b4, o4', x4, rfl, c0, -, rfl⟩ := (Rd.of_own o4).int (i := 0) (by omega)
          have c0' : w4.cell? ⟨b4, o4', none⟩ = some (.int .i64 7) := c0
          clear p4 s4 o4 W4 t4 c0
          go_wp2_with fail
          refine (go_c w4 _ _ 5000 _ W4'.out).mono ?_
          rintro e w5 ⟨A5, n5, c5, M, rfl, hn, p5, s5, o5, W5, t5⟩
          rw [one_gone] at p5
          obtain rfl := List.perm_nil.1 p5
          obtain rfl : n5 = 0 := hn
          have B5 := Lib.hid (B4.out.trans (t5.below (by simp; exact hg1) B4.out.size))
          clear p5 s5 o5 W5 t5 c0'
          go_wp2_with fail
          go_ret
          exact ⟨rfl, B5.out⟩
    · rcases hv with ⟨rfl, rfl⟩ | ⟨v1, v2, rfl⟩
      · go_wp2_with fail
        refine (go_c wr _ _ 5000 _ WT.out).mono ?_
        rintro e w3 ⟨A3, n3, c3, M, rfl, hn, p3, s3, o3, W3, t3⟩
        rw [zero_go] at p3
        obtain rfl := List.perm_nil.1 p3
        obtain rfl : n3 = 0 := hn
        have B3 := Lib.hid (BT.out.trans (t3.below (by simp; exact hg1) BT.out.size))
        clear p3 s3 o3 W3 t3
        go_wp2_with fail
        go_ret
        exact ⟨rfl, B3.out⟩
      · have HL := Lib.hid (And.intro (one_late (v := v) (to_ := v - 1) (now := 0) (by omega)) (And.intro (one_off_at (v := v) (now := v - 1) (by omega) (by omega) (by omega)) (show PWheel.goN 0 (v - 1) = v - 1 by simp [PWheel.goN, PWheel.goes, PWheel.isT]; omega)))
        have hv0 : ¬ v < 0 := by omega
        go_wp2_with fail
        refine (go_c wr _ _ (v - 1) _ WT.out).mono ?_
        rintro e w3 ⟨A3, n3, c3, M, rfl, hn, p3, s3, o3, W3, t3⟩
        rw [HL.out.1] at p3
        obtain rfl := List.perm_nil.1 p3
        obtain rfl : n3 = 0 := hn
        rw [HL.out.2.2, show PWheel.clr (one v) [] = one v from rfl] at W3
        have B3 := Lib.hid (BT.out.trans (t3.below (by simp; exact hg1) BT.out.size))
        have W3' := Lib.hid W3
        clear p3 s3 o3 W3 t3
        go_wp2_with fail
        refine (go_c w3 _ _ v _ W3'.out).mono ?_
        rintro e w4 ⟨A4, n4, c4, M, rfl, hn, p4, s4, o4, W4, t4⟩
        rw [HL.out.2.1] at p4
        obtain rfl := List.perm_singleton.1 p4
        obtain rfl : n4 = 1 := hn
        have B4 := Lib.hid (B3.out.trans (t4.below (by simp; exact hg1) B3.out.size))
        have W4' := Lib.hid W4
        obtain ⟨b4, o4', x4, rfl, c0, -, rfl⟩ := (Rd.of_own o4).int (i := 0) (by omega)
        have c0' : w4.cell? ⟨b4, o4', none⟩ = some (.int .i64 7) := c0
        clear p4 s4 o4 W4 t4 c0
        go_wp2_with fail
        refine (go_c w4 _ _ 5000 _ W4'.out).mono ?_
        rintro e w5 ⟨A5, n5, c5, M, rfl, hn, p5, s5, o5, W5, t5⟩
        rw [one_gone] at p5
        obtain rfl := List.perm_nil.1 p5
        obtain rfl : n5 = 0 := hn
        have B5 := Lib.hid (B4.out.trans (t5.below (by simp; exact hg1) B4.out.size))
        clear p5 s5 o5 W5 t5 c0'
        go_wp2_with fail
        go_ret
        exact ⟨rfl, B5.out⟩

end Go.Proofs.Ytnpdhddnlcpaiaa
