/- Plain mathematics of how long a message took. No program is named here. -/
import Derived.Test.YtfidmiakdckljaaPlainSpan
namespace Go.Proofs.Ytfidmiakdckljaa.PDelay
open PSpan (sub add up dn ans)

/-- What went by from x to y, and that there is such a time, not below 0. -/
def went (x y : Int) : Int × Bool := ((sub y x).1, (sub y x).2 && decide (0 ≤ (sub y x).1))
def Rate (p : Int) : Prop := 0 ≤ p ∧ p ≤ 500000
instance (p : Int) : Decidable (Rate p) := by unfold Rate; infer_instance
def raw (a k p : Int) : Int := max 0 (up a 1000000 (1000000 - p) - dn k 1000000 (1000000 + p))
def bound (s h b c p : Int) : Int × Bool :=
  if (went s c).2 = true ∧ (went h b).2 = true ∧ Rate p then add (raw (went s c).1 (went h b).1 p) 0 else (0, false)
def fast (s h b c p m : Int) : Bool := (bound s h b c p).2 && decide ((bound s h b c p).1 ≤ m)

theorem went_yes {x y : Int} (h : (went x y).2 = true) : went x y = (y - x, true) ∧ 0 ≤ y - x ∧ y - x ≤ 1099511627776 ∧ (-1099511627776 ≤ x ∧ x ≤ 1099511627776) ∧ (-1099511627776 ≤ y ∧ y ≤ 1099511627776) := by
  unfold went at h ⊢
  unfold sub at h ⊢
  by_cases hb : (-1099511627776 ≤ y ∧ y ≤ 1099511627776) ∧ (-1099511627776 ≤ x ∧ x ≤ 1099511627776)
  · rw [if_pos hb] at h ⊢
    unfold ans at h ⊢
    by_cases ht : -1099511627776 ≤ y - x ∧ y - x ≤ 1099511627776
    · rw [if_pos ht] at h ⊢
      simp only [Bool.true_and, decide_eq_true_eq] at h
      exact ⟨by show (y - x, (true && decide (0 ≤ y - x))) = _; rw [decide_eq_true h]; rfl, h, ht.2, hb.2, hb.1⟩
    · rw [if_neg ht] at h; simp at h
  · rw [if_neg hb] at h; simp at h
theorem went_of {x y : Int} (h1 : -1099511627776 ≤ x) (h2 : x ≤ 1099511627776) (h3 : -1099511627776 ≤ y) (h4 : y ≤ 1099511627776) (h5 : 0 ≤ y - x) (h6 : y - x ≤ 1099511627776) : went x y = (y - x, true) := by
  unfold went sub
  rw [if_pos ⟨⟨h3, h4⟩, h1, h2⟩, PSpan.ans_in (by omega) h6]
  show (y - x, (true && decide (0 ≤ y - x))) = _
  rw [decide_eq_true h5]; rfl

theorem up_big {a p : Int} (h1 : 0 ≤ a) (h2 : a ≤ 1099511627776) (hp : Rate p) : a ≤ up a 1000000 (1000000 - p) ∧ up a 1000000 (1000000 - p) ≤ 2 * a := by
  obtain ⟨p1, p2⟩ := hp
  have m := Int.mul_nonneg h1 p1
  have m2 : a * p ≤ a * 500000 := Int.mul_le_mul_of_nonneg_left p2 h1
  constructor
  · have := PSpan.le_up (a := a) (p := 1000000) (q := 1000000 - p) (by omega)
    refine Int.le_of_mul_le_mul_right (a := 1000000 - p) ?_ (by omega)
    rw [Int.mul_sub a]
    omega
  · refine PSpan.up_le (by omega) ?_
    rw [Int.mul_sub, show 2 * a * p = 2 * (a * p) from Int.mul_assoc ..]
    omega
theorem dn_big {a p : Int} (h1 : 0 ≤ a) (hp : Rate p) : 0 ≤ dn a 1000000 (1000000 + p) ∧ dn a 1000000 (1000000 + p) ≤ a := by
  obtain ⟨p1, p2⟩ := hp
  have m := Int.mul_nonneg h1 p1
  constructor
  · exact PSpan.le_dn (by omega) (by omega)
  · have := PSpan.dn_le (a := a) (p := 1000000) (q := 1000000 + p) (by omega)
    refine Int.le_of_mul_le_mul_right (a := 1000000 + p) ?_ (by omega)
    rw [Int.mul_add a]
    omega

theorem add_zero {a : Int} (h1 : 0 ≤ a) (h2 : a ≤ 1099511627776) : add a 0 = (a, true) := by
  unfold add
  rw [if_pos (by omega), show a + 0 = a by omega, PSpan.ans_in (by omega) h2]
theorem add_some {a : Int} (h : (add a 0).2 = true) : add a 0 = (a, true) ∧ a ≤ 1099511627776 := by
  unfold add at h ⊢
  by_cases hb : (-1099511627776 ≤ a ∧ a ≤ 1099511627776) ∧ (-1099511627776 ≤ (0 : Int) ∧ (0 : Int) ≤ 1099511627776)
  · rw [if_pos hb, show a + 0 = a by omega, PSpan.ans_in (by omega) (by omega)]
    exact ⟨rfl, hb.1.2⟩
  · rw [if_neg hb] at h; simp at h
theorem raw_nonneg (a k p : Int) : 0 ≤ raw a k p := by unfold raw; omega

/-- Where the times are there and not far apart, so is the bound. -/
theorem bound_in {s h b c p : Int} (hw : went s c = (c - s, true)) (hk : went h b = (b - h, true)) (hp : Rate p) (ha : c - s ≤ 549755813888) : bound s h b c p = (raw (c - s) (b - h) p, true) := by
  have y1 := went_yes (x := s) (y := c) (by rw [hw])
  have y2 := went_yes (x := h) (y := b) (by rw [hk])
  obtain ⟨u1, u2⟩ := up_big y1.2.1 y1.2.2.1 hp
  obtain ⟨d1, d2⟩ := dn_big y2.2.1 hp
  unfold bound
  rw [hw, hk, if_pos ⟨rfl, rfl, hp⟩]
  exact add_zero (raw_nonneg _ _ _) (by simp only [raw]; omega)
theorem bound_some {s h b c p : Int} (hb : (bound s h b c p).2 = true) : went s c = (c - s, true) ∧ went h b = (b - h, true) ∧ Rate p ∧ bound s h b c p = (raw (c - s) (b - h) p, true) := by
  unfold bound at hb ⊢
  by_cases hc : (went s c).2 = true ∧ (went h b).2 = true ∧ Rate p
  · have y1 := went_yes hc.1
    have y2 := went_yes hc.2.1
    rw [if_pos hc] at hb ⊢
    rw [y1.1, y2.1] at hb ⊢
    exact ⟨rfl, rfl, hc.2.2, (add_some hb).1⟩
  · rw [if_neg hc] at hb; simp at hb
theorem bound_none {s h b c p : Int} (hb : (bound s h b c p).2 = false) : bound s h b c p = (0, false) := by
  unfold bound at hb ⊢
  by_cases hc : (went s c).2 = true ∧ (went h b).2 = true ∧ Rate p
  · rw [if_pos hc] at hb ⊢
    unfold add at hb ⊢
    split
    · rename_i h'
      rw [if_pos h'] at hb
      unfold ans at hb ⊢
      split
      · rename_i h''; rw [if_pos h''] at hb; simp at hb
      · rfl
    · rfl
  · rw [if_neg hc]

theorem up_le_up {a a' p p' : Int} (ha : 0 ≤ a) (h : a ≤ a') (hpp : p ≤ p') (h5 : p' ≤ 500000) : up a 1000000 (1000000 - p) ≤ up a' 1000000 (1000000 - p') :=
  PSpan.up_mono (by omega) (by omega) (by
    rw [Int.mul_assoc, Int.mul_assoc]
    exact Int.le_trans (Int.mul_le_mul_of_nonneg_right h (by omega)) (Int.mul_le_mul_of_nonneg_left (by omega) (by omega)))
theorem dn_le_dn {a p p' : Int} (ha : 0 ≤ a) (hp : 0 ≤ p) (hpp : p ≤ p') : dn a 1000000 (1000000 + p') ≤ dn a 1000000 (1000000 + p) :=
  PSpan.dn_mono (by omega) (by omega) (by
    rw [Int.mul_assoc, Int.mul_assoc]
    exact Int.mul_le_mul_of_nonneg_left (by omega) ha)
theorem raw_mono {a a' k p p' : Int} (ha : 0 ≤ a) (h : a ≤ a') (hk : 0 ≤ k) (hp : 0 ≤ p) (hpp : p ≤ p') (h5 : p' ≤ 500000) : raw a k p ≤ raw a' k p' := by
  have := up_le_up ha h hpp h5
  have := dn_le_dn hk hp hpp
  unfold raw; omega
theorem raw_zero (a k : Int) : raw a k 0 = max 0 (a - k) := by
  unfold raw up dn; omega

theorem raw_small {a k p : Int} (ha : 0 ≤ a) (h : a ≤ 1099511627776) (hk : 0 ≤ k) (hp : Rate p) : raw a k p ≤ 2 * a := by
  have := up_big ha h hp
  have := dn_big hk hp
  unfold raw; omega
/-- A longer way. -/
theorem more_yes {s h k c m p : Int} (hb : (bound s h k c p).2 = true) (hm : 0 ≤ m) (hm2 : m ≤ 1073741824) (hs : 0 ≤ s) (hc : c ≤ 1073741824) : ∃ x y, bound s h k c p = (x, true) ∧ bound s h k (c + m) p = (y, true) ∧ x ≤ y := by
  obtain ⟨w1, w2, hp, e⟩ := bound_some hb
  have y1 := went_yes (x := s) (y := c) (by rw [w1])
  have y2 := went_yes (x := h) (y := k) (by rw [w2])
  refine ⟨_, _, e, bound_in (went_of (by omega) (by omega) (by omega) (by omega) (by omega) (by omega)) w2 hp (by omega), ?_⟩
  exact raw_mono y1.2.1 (by omega) y2.2.1 hp.1 (Int.le_refl _) hp.2
/-- Clocks that may drift more. -/
theorem drift_yes {s h k c p q : Int} (hb : (bound s h k c p).2 = true) (hs : 0 ≤ s) (hc : c ≤ 1073741824) (hpq : p ≤ q) (hq : q ≤ 500000) :
    ∃ x y, bound s h k c p = (x, true) ∧ bound s h k c q = (y, true) ∧ x ≤ y ∧ 0 ≤ x ∧ y ≤ 2147483648 ∧ fast s h k c q (x - 1) = false := by
  obtain ⟨w1, w2, hp, e⟩ := bound_some hb
  have y1 := went_yes (x := s) (y := c) (by rw [w1])
  have y2 := went_yes (x := h) (y := k) (by rw [w2])
  have hq' : Rate q := ⟨by have := hp.1; omega, hq⟩
  have e2 := bound_in w1 w2 hq' (by omega)
  have hm := raw_mono y1.2.1 (Int.le_refl _) y2.2.1 hp.1 hpq hq
  refine ⟨_, _, e, e2, hm, raw_nonneg _ _ _, ?_, ?_⟩
  · have := raw_small y1.2.1 y1.2.2.1 y2.2.1 hq'
    omega
  · unfold fast
    rw [e2]
    show (true && decide (_ ≤ _)) = false
    rw [decide_eq_false (by omega)]; rfl
theorem drift_no {s h k c p q : Int} (hb : (bound s h k c p).2 = false) (hs : 0 ≤ s) (hc : c ≤ 1073741824) (hp : Rate p) : bound s h k c p = (0, false) ∧ bound s h k c q = (0, false) := by
  refine ⟨bound_none hb, if_neg fun hh => ?_⟩
  have y1 := went_yes hh.1
  have y2 := went_yes hh.2.1
  rw [bound_in y1.1 y2.1 hp (by omega)] at hb
  simp at hb

/-- The clocks that go within their bound: what the first shows of a real time n, and the second of m. -/
theorem first_bound {n p : Int} (hn : 0 ≤ n) (hp : Rate p) (f : Bool) : n ≤ up (if f then dn n (1000000 + p) 1000000 else up n (1000000 - p) 1000000) 1000000 (1000000 - p) := by
  obtain ⟨p1, p2⟩ := hp
  have m := Int.mul_nonneg hn p1
  cases f
  · have h1 := PSpan.le_up (a := n) (p := 1000000 - p) (q := 1000000) (by omega)
    have h2 := PSpan.le_up (a := up n (1000000 - p) 1000000) (p := 1000000) (q := 1000000 - p) (by omega)
    exact Int.le_of_mul_le_mul_right (a := 1000000 - p) (Int.le_trans h1 h2) (by omega)
  · have h1 : n ≤ dn n (1000000 + p) 1000000 := PSpan.le_dn (by omega) (by rw [Int.mul_add]; omega)
    have h3 := PSpan.le_up (a := dn n (1000000 + p) 1000000) (p := 1000000) (q := 1000000 - p) (by omega)
    refine Int.le_of_mul_le_mul_right (a := 1000000 - p) ?_ (by omega)
    have : n * (1000000 - p) ≤ dn n (1000000 + p) 1000000 * 1000000 := by
      rw [Int.mul_sub]; omega
    exact Int.le_trans this h3
theorem second_bound {m p : Int} (hm : 0 ≤ m) (hp : Rate p) (f : Bool) : dn (if f then up m (1000000 - p) 1000000 else dn m (1000000 + p) 1000000) 1000000 (1000000 + p) ≤ m := by
  obtain ⟨p1, p2⟩ := hp
  have q := Int.mul_nonneg hm p1
  cases f
  · have h1 := PSpan.dn_le (a := m) (p := 1000000 + p) (q := 1000000) (by omega)
    have h2 := PSpan.dn_le (a := dn m (1000000 + p) 1000000) (p := 1000000) (q := 1000000 + p) (by omega)
    exact Int.le_of_mul_le_mul_right (a := 1000000 + p) (Int.le_trans h2 h1) (by omega)
  · have h1 : up m (1000000 - p) 1000000 ≤ m := PSpan.up_le (by omega) (by rw [Int.mul_sub]; omega)
    have h3 := PSpan.dn_le (a := up m (1000000 - p) 1000000) (p := 1000000) (q := 1000000 + p) (by omega)
    refine Int.le_of_mul_le_mul_right (a := 1000000 + p) ?_ (by omega)
    have : up m (1000000 - p) 1000000 * 1000000 ≤ m * (1000000 + p) := by
      rw [Int.mul_add]; omega
    exact Int.le_trans h3 this
/-- The parts of a clock's showing. -/
theorem show_in {n p : Int} (hn : 0 ≤ n) (hp : Rate p) (f : Bool) : 0 ≤ (if f then dn n (1000000 + p) 1000000 else up n (1000000 - p) 1000000) ∧ (if f then dn n (1000000 + p) 1000000 else up n (1000000 - p) 1000000) ≤ 2 * n := by
  obtain ⟨p1, p2⟩ := hp
  have q := Int.mul_nonneg hn p1
  have q2 : n * p ≤ n * 500000 := Int.mul_le_mul_of_nonneg_left p2 hn
  cases f
  · constructor
    · have h1 := PSpan.le_up (a := n) (p := 1000000 - p) (q := 1000000) (by omega)
      refine Int.le_of_mul_le_mul_right (a := 1000000) ?_ (by omega)
      rw [Int.mul_sub] at h1
      show 0 * 1000000 ≤ up n (1000000 - p) 1000000 * 1000000
      omega
    · exact PSpan.up_le (by omega) (by rw [Int.mul_sub]; omega)
  · constructor
    · exact PSpan.le_dn (by omega) (by rw [Int.mul_add]; omega)
    · have h1 := PSpan.dn_le (a := n) (p := 1000000 + p) (q := 1000000) (by omega)
      refine Int.le_of_mul_le_mul_right (a := 1000000) ?_ (by omega)
      rw [Int.mul_add] at h1
      show dn n (1000000 + p) 1000000 * 1000000 ≤ 2 * n * 1000000
      omega
end Go.Proofs.Ytfidmiakdckljaa.PDelay
