/- Plain mathematics of times and rates. No program is named here. -/
namespace Go.Proofs.Ytdhiennncjeieaa.PSpan

def isT (a : Int) : Bool := decide (-1099511627776 ≤ a ∧ a ≤ 1099511627776)
/-- A time and that it is one; else 0 and false. -/
def ans (a : Int) : Int × Bool := if -1099511627776 ≤ a ∧ a ≤ 1099511627776 then (a, true) else (0, false)
def add (a b : Int) : Int × Bool := if (-1099511627776 ≤ a ∧ a ≤ 1099511627776) ∧ (-1099511627776 ≤ b ∧ b ≤ 1099511627776) then ans (a + b) else (0, false)
def sub (a b : Int) : Int × Bool := if (-1099511627776 ≤ a ∧ a ≤ 1099511627776) ∧ (-1099511627776 ≤ b ∧ b ≤ 1099511627776) then ans (a - b) else (0, false)
/-- May a be by another clock, at such a rate? -/
def Ok (a d : Int) : Prop := 0 ≤ a ∧ a ≤ 1099511627776 ∧ 0 ≤ d ∧ d ≤ 500000
instance (a d : Int) : Decidable (Ok a d) := by unfold Ok; infer_instance
/-- a p / q, upwards and downwards. -/
def up (a p q : Int) : Int := (a * p + q - 1) / q
def dn (a p q : Int) : Int := a * p / q
def most (a d : Int) : Int × Bool := if Ok a d then ans (up a (1000000 + d) (1000000 - d)) else (0, false)
def least (a d : Int) : Int × Bool := if Ok a d then ans (dn a (1000000 - d) (1000000 + d)) else (0, false)

theorem ans_in {a : Int} (h1 : -1099511627776 ≤ a) (h2 : a ≤ 1099511627776) : ans a = (a, true) := if_pos ⟨h1, h2⟩
theorem ans_out {a : Int} (h : ¬ (-1099511627776 ≤ a ∧ a ≤ 1099511627776)) : ans a = (0, false) := if_neg h

/-- The parts of a p / q. -/
theorem part (a p q : Int) : a * p = q * (a / q * p) + a % q * p := by
  have e := Int.emod_add_mul_ediv a q
  calc a * p = (a % q + q * (a / q)) * p := by rw [e]
    _ = a % q * p + q * (a / q) * p := Int.add_mul ..
    _ = q * (a / q * p) + a % q * p := by rw [Int.mul_assoc, Int.add_comm]
theorem dn_parts (a p q : Int) (hq : 0 < q) : dn a p q = a / q * p + a % q * p / q := by
  unfold dn
  rw [part a p q, Int.add_comm, Int.add_mul_ediv_left _ _ (by omega), Int.add_comm]
theorem up_parts (a p q : Int) (hq : 0 < q) : up a p q = a / q * p + a % q * p / q + (if a % q * p % q = 0 then 0 else 1) := by
  unfold up
  rw [part a p q]
  have e2 := Int.emod_add_mul_ediv (a % q * p) q
  generalize a % q * p = r at *
  have m1 := Int.emod_nonneg r (show q ≠ 0 by omega)
  have m2 := Int.emod_lt_of_pos r hq
  have e : q * (a / q * p) + r + q - 1 = (r % q + q - 1) + q * (a / q * p + r / q) := by rw [Int.mul_add]; omega
  rw [e, Int.add_mul_ediv_left _ _ (by omega)]
  by_cases h : r % q = 0
  · rw [if_pos h, h]
    have : (0 + q - 1) / q = 0 := Int.ediv_eq_zero_of_lt (by omega) (by omega)
    omega
  · rw [if_neg h]
    have : (r % q + q - 1) / q = 1 := by
      have : r % q + q - 1 = (r % q - 1) + q * 1 := by omega
      rw [this, Int.add_mul_ediv_left _ _ (by omega), Int.ediv_eq_zero_of_lt (by omega) (by omega)]
      rfl
    omega

/-- What up and dn are by their bounds. -/
theorem dn_le {a p q : Int} (hq : 0 < q) : dn a p q * q ≤ a * p := Int.ediv_mul_le _ (by omega)
theorem le_dn {a p q x : Int} (hq : 0 < q) (h : x * q ≤ a * p) : x ≤ dn a p q := (Int.le_ediv_iff_mul_le hq).2 h
theorem up_le {a p q x : Int} (hq : 0 < q) (h : a * p ≤ x * q) : up a p q ≤ x := by
  unfold up
  have : (a * p + q - 1) / q < x + 1 := Int.ediv_lt_of_lt_mul hq (by rw [Int.add_mul]; omega)
  omega
theorem le_up {a p q : Int} (hq : 0 < q) : a * p ≤ up a p q * q := by
  unfold up
  have := Int.lt_ediv_add_one_mul_self (a * p + q - 1) hq
  rw [Int.add_mul] at this
  omega
theorem lt_up {a p q x : Int} (hq : 0 < q) (h : x * q < a * p) : x < up a p q := by
  have := le_up (a := a) (p := p) hq
  rcases Int.lt_or_le x (up a p q) with h' | h'
  · exact h'
  · have := Int.mul_le_mul_of_nonneg_right h' (show 0 ≤ q by omega)
    omega
theorem up_mono {a b p p' q q' : Int} (hq : 0 < q) (hq' : 0 < q') (h : a * p * q' ≤ b * p' * q) : up a p q ≤ up b p' q' := by
  refine up_le hq ?_
  have h1 := Int.mul_le_mul_of_nonneg_right (le_up (a := b) (p := p') hq') (show 0 ≤ q by omega)
  have h2 : a * p * q' ≤ up b p' q' * q * q' := by
    rw [Int.mul_right_comm (up b p' q') q q']; omega
  exact Int.le_of_mul_le_mul_right h2 hq'
theorem dn_mono {a b p p' q q' : Int} (hq : 0 < q) (hq' : 0 < q') (h : a * p * q' ≤ b * p' * q) : dn a p q ≤ dn b p' q' := by
  refine le_dn hq' ?_
  have h1 := Int.mul_le_mul_of_nonneg_right (dn_le (a := a) (p := p) hq) (show 0 ≤ q' by omega)
  have h2 : dn a p q * q' * q ≤ b * p' * q := by
    rw [Int.mul_right_comm (dn a p q) q' q]; omega
  exact Int.le_of_mul_le_mul_right h2 hq

/-- Of times that are not great the answers are times. -/
theorem up_in {a d : Int} (h : 0 ≤ a ∧ a ≤ 274877906944 ∧ 0 ≤ d ∧ d ≤ 500000) : a ≤ up a (1000000 + d) (1000000 - d) ∧ up a (1000000 + d) (1000000 - d) ≤ 1099511627776 := by
  obtain ⟨h1, h2, h3, h4⟩ := h
  have m := Int.mul_nonneg h1 h3
  have m2 : a * d ≤ a * 500000 := Int.mul_le_mul_of_nonneg_left h4 h1
  constructor
  · have := le_up (a := a) (p := 1000000 + d) (q := 1000000 - d) (by omega)
    refine Int.le_of_mul_le_mul_right (a := 1000000 - d) ?_ (by omega)
    rw [Int.mul_add] at this
    rw [Int.mul_sub a]
    omega
  · refine up_le (by omega) ?_
    rw [Int.mul_add, Int.mul_sub]
    omega
theorem dn_in {a d : Int} (h : 0 ≤ a ∧ a ≤ 1099511627776 ∧ 0 ≤ d ∧ d ≤ 500000) : 0 ≤ dn a (1000000 - d) (1000000 + d) ∧ dn a (1000000 - d) (1000000 + d) ≤ a := by
  obtain ⟨h1, h2, h3, h4⟩ := h
  have m := Int.mul_nonneg h1 h3
  have m2 : a * d ≤ a * 500000 := Int.mul_le_mul_of_nonneg_left h4 h1
  constructor
  · refine le_dn (by omega) ?_
    rw [Int.mul_sub]; omega
  · have := dn_le (a := a) (p := 1000000 - d) (q := 1000000 + d) (by omega)
    refine Int.le_of_mul_le_mul_right (a := 1000000 + d) ?_ (by omega)
    rw [Int.mul_sub a] at this
    rw [Int.mul_add a]
    omega

theorem most_in {a d : Int} (h : 0 ≤ a ∧ a ≤ 274877906944 ∧ 0 ≤ d ∧ d ≤ 500000) : most a d = (up a (1000000 + d) (1000000 - d), true) := by
  have := up_in h
  unfold most
  rw [if_pos (by unfold Ok; omega), ans_in (by omega) (by omega)]
theorem least_in {a d : Int} (h : 0 ≤ a ∧ a ≤ 1099511627776 ∧ 0 ≤ d ∧ d ≤ 500000) : least a d = (dn a (1000000 - d) (1000000 + d), true) := by
  have := dn_in h
  unfold least
  rw [if_pos (by unfold Ok; omega), ans_in (by omega) (by omega)]

theorem none (a : Int) : up a (1000000 + 0) (1000000 - 0) = a ∧ dn a (1000000 - 0) (1000000 + 0) = a := by
  unfold up dn; omega
theorem back_up {a d : Int} (h : 0 ≤ a ∧ a ≤ 274877906944 ∧ 0 ≤ d ∧ d ≤ 500000) : a ≤ dn (up a (1000000 + d) (1000000 - d)) (1000000 - d) (1000000 + d) :=
  le_dn (by omega) (le_up (by omega))
theorem back_dn {a d : Int} (h : 0 ≤ a ∧ a ≤ 274877906944 ∧ 0 ≤ d ∧ d ≤ 500000) : up (dn a (1000000 - d) (1000000 + d)) (1000000 + d) (1000000 - d) ≤ a :=
  up_le (by omega) (dn_le (by omega))
theorem up_time {a b d : Int} (h : a ≤ b ∧ 0 ≤ d ∧ d ≤ 500000) : up a (1000000 + d) (1000000 - d) ≤ up b (1000000 + d) (1000000 - d) :=
  up_mono (by omega) (by omega) (Int.mul_le_mul_of_nonneg_right (Int.mul_le_mul_of_nonneg_right h.1 (by omega)) (by omega))
theorem dn_time {a b d : Int} (h : a ≤ b ∧ 0 ≤ d ∧ d ≤ 500000) : dn a (1000000 - d) (1000000 + d) ≤ dn b (1000000 - d) (1000000 + d) :=
  dn_mono (by omega) (by omega) (Int.mul_le_mul_of_nonneg_right (Int.mul_le_mul_of_nonneg_right h.1 (by omega)) (by omega))
theorem rates {d e : Int} (h : 0 ≤ d ∧ d ≤ e ∧ e ≤ 500000) : (1000000 + d) * (1000000 - e) ≤ (1000000 + e) * (1000000 - d) := by
  have c := Int.mul_comm e d
  simp only [Int.mul_sub, Int.add_mul]
  omega
theorem up_rate {a d e : Int} (ha : 0 ≤ a) (h : 0 ≤ d ∧ d ≤ e ∧ e ≤ 500000) : up a (1000000 + d) (1000000 - d) ≤ up a (1000000 + e) (1000000 - e) :=
  up_mono (by omega) (by omega) (by
    rw [Int.mul_assoc, Int.mul_assoc]
    exact Int.mul_le_mul_of_nonneg_left (rates h) ha)
theorem dn_rate {a d e : Int} (ha : 0 ≤ a) (h : 0 ≤ d ∧ d ≤ e ∧ e ≤ 500000) : dn a (1000000 - e) (1000000 + e) ≤ dn a (1000000 - d) (1000000 + d) :=
  dn_mono (by omega) (by omega) (by
    rw [Int.mul_assoc, Int.mul_assoc, Int.mul_comm (1000000 - e), Int.mul_comm (1000000 - d)]
    exact Int.mul_le_mul_of_nonneg_left (rates h) ha)

end Go.Proofs.Ytdhiennncjeieaa.PSpan
