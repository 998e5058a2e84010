/- Plain mathematics of teams: bits of numbers below 128. No program is named here. -/
import Derived.Laws.BitsAllLaws
import Derived.Laws.Bits128
namespace Go.Proofs.Ytnpobagipgephaa.PTeam

/-- The team of one. -/
def one (id : Int) : Nat := if 1 ≤ id ∧ id ≤ 7 then 2 ^ (id - 1).toNat else 0
def has (t : Nat) (id : Int) : Bool := decide (t &&& one id ≠ 0)
def wth (t : Nat) (id : Int) : Nat := t ||| one id
def wout (t : Nat) (id : Int) : Nat := t &&& (127 - one id)
def cnt (t : Nat) : Nat := (List.range 7).countP fun i => t.testBit i
def lstTo (t k : Nat) : List Int := ((List.range k).filter fun i => t.testBit i).map fun i : Nat => (i : Int) + 1
def lst (t : Nat) : List Int := lstTo t 7
def may (t n : Int) : Bool := decide (3 ≤ n ∧ n ≤ 7) && decide (0 ≤ t ∧ t < 2 ^ n.toNat)
def most (t n : Int) : Bool := may t n && decide (n / 2 < (cnt t.toNat : Int))
def decider (v n : Int) : Int := if v < 1 ∨ n < 3 ∨ 7 < n then 0 else 1 + (v - 1) % n
/-- Those of a list. -/
def ofL (l : List Int) : Nat := l.foldl wth 0

theorem one_cases (id : Int) : (one id = 0 ∧ (id < 1 ∨ 7 < id)) ∨ ∃ k : Nat, k < 7 ∧ id = k + 1 ∧ one id = 2 ^ k := by
  unfold one
  by_cases h : 1 ≤ id ∧ id ≤ 7
  · exact .inr ⟨(id - 1).toNat, by omega, by omega, by rw [if_pos h]⟩
  · exact .inl ⟨by rw [if_neg h], by omega⟩
theorem pow_lt (k : Nat) (hk : k < 7) : 2 ^ k < 128 := (by decide : ∀ k : Fin 7, 2 ^ k.val < 128) ⟨k, hk⟩
theorem one_lt (id : Int) : one id < 128 := by
  rcases one_cases id with ⟨h, _⟩ | ⟨k, hk, _, h⟩
  · omega
  · rw [h]; exact pow_lt k hk
theorem one_out {id : Int} (h : id < 1 ∨ 7 < id) : one id = 0 := by unfold one; rw [if_neg (by omega)]
theorem one_in (k : Nat) (h : k < 7) : one ((k : Int) + 1) = 2 ^ k := by
  unfold one; rw [if_pos (by omega)]; congr 1; omega
theorem and_lt {t : Nat} (u : Nat) (h : t < 128) : t &&& u < 128 := Nat.lt_of_le_of_lt Nat.and_le_left h
theorem and_lt' {u : Nat} (t : Nat) (h : u < 128) : t &&& u < 128 := Nat.lt_of_le_of_lt Nat.and_le_right h
theorem or_lt {t u : Nat} (h : t < 128) (h' : u < 128) : t ||| u < 128 := Nat.or_lt_two_pow (n := 7) h h'
theorem wth_lt {t : Nat} (h : t < 128) (id : Int) : wth t id < 128 := or_lt h (one_lt id)
theorem wout_lt {t : Nat} (h : t < 128) (id : Int) : wout t id < 128 := and_lt _ h
theorem ofL_lt (l : List Int) : ofL l < 128 := by
  have : ∀ (l : List Int) (t : Nat), t < 128 → l.foldl wth t < 128 := by
    intro l
    induction l with
    | nil => intro t h; exact h
    | cons x l ih => intro t h; exact ih _ (wth_lt h x)
  exact this l 0 (by omega)

/-- Of all teams and all processes: by looking at each. -/
theorem all7 (p : Nat → Nat → Bool) (h : (List.range 128).all (fun t => (List.range 7).all fun k => p t k) = true) (t k : Nat) (ht : t < 128) (hk : k < 7) : p t k = true :=
  List.all_eq_true.1 (List.all_eq_true.1 h t (List.mem_range.2 ht)) k (List.mem_range.2 hk)
theorem all1 (p : Nat → Bool) (h : (List.range 128).all p = true) (t : Nat) (ht : t < 128) : p t = true :=
  List.all_eq_true.1 h t (List.mem_range.2 ht)

theorem has_out (t : Nat) {id : Int} (h : id < 1 ∨ 7 < id) : has t id = false := by unfold has; rw [one_out h]; simp
theorem has_in (t k : Nat) (ht : t < 128) (h : k < 7) : has t ((k : Int) + 1) = t.testBit k := by
  unfold has; rw [one_in k h]
  have := all7 (fun t k => decide (t &&& 2 ^ k ≠ 0) == t.testBit k) (by decide +kernel) t k ht h
  simpa using this
theorem has_bits (t : Nat) (ht : t < 128) (id : Int) : has t id = (decide (1 ≤ id ∧ id ≤ 7) && t.testBit (id - 1).toNat) := by
  by_cases h : 1 ≤ id ∧ id ≤ 7
  · obtain ⟨k, rfl⟩ : ∃ k : Nat, id = k + 1 := ⟨(id - 1).toNat, by omega⟩
    rw [has_in t k ht (by omega)]
    have : ((k : Int) + 1 - 1).toNat = k := by omega
    rw [this]; simp [h]
  · rw [has_out t (by omega)]; simp [h]

theorem bit_one (id : Int) (k : Nat) (hk : k < 7) : (one id).testBit k = decide (id = k + 1) := by
  rcases one_cases id with ⟨h, h'⟩ | ⟨j, hj, rfl, h⟩
  · rw [h]; simp; omega
  · rw [h, Nat.testBit_two_pow]
    by_cases e : j = k
    · subst e; simp
    · simp [e]; omega
theorem has_wth (t : Nat) (ht : t < 128) (id i : Int) (h1 : 1 ≤ i) (h7 : i ≤ 7) : has (wth t id) i = (has t i || decide (i = id)) := by
  obtain ⟨k, rfl⟩ : ∃ k : Nat, i = k + 1 := ⟨(i - 1).toNat, by omega⟩
  rw [has_in _ k (wth_lt ht id) (by omega), has_in _ k ht (by omega)]
  unfold wth
  rw [Nat.testBit_or, bit_one id k (by omega)]
  congr 1
  exact decide_eq_decide.2 ⟨fun h => h.symm, fun h => h.symm⟩
theorem bit_not (o k : Nat) (ho : o < 128) (hk : k < 7) : (127 - o).testBit k = !o.testBit k := by
  have := all7 (fun o k => (127 - o).testBit k == !o.testBit k) (by decide +kernel) o k ho hk
  simpa using this
theorem has_wout (t : Nat) (ht : t < 128) (id i : Int) (h1 : 1 ≤ i) (h7 : i ≤ 7) : has (wout t id) i = (has t i && decide (i ≠ id)) := by
  obtain ⟨k, rfl⟩ : ∃ k : Nat, i = k + 1 := ⟨(i - 1).toNat, by omega⟩
  rw [has_in _ k (wout_lt ht id) (by omega), has_in _ k ht (by omega)]
  unfold wout
  rw [Nat.testBit_and, bit_not _ k (one_lt id) (by omega), bit_one id k (by omega)]
  congr 1
  by_cases h : id = k + 1
  · simp [h]
  · have : ¬ (k : Int) + 1 = id := by omega
    simp [h, this]
theorem has_and (t u : Nat) (ht : t < 128) (hu : u < 128) (i : Int) (h1 : 1 ≤ i) (h7 : i ≤ 7) : has (t &&& u) i = (has t i && has u i) := by
  obtain ⟨k, rfl⟩ : ∃ k : Nat, i = k + 1 := ⟨(i - 1).toNat, by omega⟩
  rw [has_in _ k (and_lt u ht) (by omega), has_in _ k ht (by omega), has_in _ k hu (by omega), Nat.testBit_and]
theorem has_ofL (l : List Int) (i : Int) (h1 : 1 ≤ i) (h7 : i ≤ 7) : has (ofL l) i = l.contains i := by
  have : ∀ (l : List Int) (t : Nat), t < 128 → has (l.foldl wth t) i = (has t i || l.contains i) := by
    intro l
    induction l with
    | nil => intro t h; simp
    | cons x l ih =>
      intro t h
      rw [List.foldl_cons, ih _ (wth_lt h x), has_wth t h x i h1 h7, Bool.or_assoc]
      congr 1
  have h0 := this l 0 (by omega)
  unfold ofL
  rw [h0]
  have : has 0 i = false := by simp [has]
  rw [this, Bool.false_or]

theorem and127 (t : Nat) (ht : t < 128) : t &&& 127 = t := (Nat.and_two_pow_sub_one_eq_mod t 7).trans (Nat.mod_eq_of_lt ht)
theorem cnt_le (t : Nat) : cnt t ≤ 7 := by unfold cnt; exact Nat.le_trans List.countP_le_length (by simp)
theorem cnt_wth (t : Nat) (ht : t < 128) (id : Int) : cnt (wth t id) = if decide (1 ≤ id ∧ id ≤ 7) && !has t id then cnt t + 1 else cnt t := by
  rcases one_cases id with ⟨h, h'⟩ | ⟨k, hk, rfl, h⟩
  · unfold wth; rw [h]; simp; omega
  · rw [has_in t k ht hk]; unfold wth; rw [h]
    have := all7 (fun t k => cnt (t ||| 2 ^ k) == if !t.testBit k then cnt t + 1 else cnt t) (by decide +kernel) t k ht hk
    simp only [beq_iff_eq] at this
    rw [this]
    have e : decide (1 ≤ (k : Int) + 1 ∧ (k : Int) + 1 ≤ 7) = true := by simp; omega
    rw [e, Bool.true_and]
theorem cnt_wout (t : Nat) (ht : t < 128) (id : Int) : (cnt (wout t id) : Int) = if has t id then (cnt t : Int) - 1 else cnt t := by
  rcases one_cases id with ⟨h, h'⟩ | ⟨k, hk, rfl, h⟩
  · rw [has_out t h']; unfold wout; rw [h]
    have : t &&& 127 = t := and127 t ht
    simp [this]
  · rw [has_in t k ht hk]; unfold wout; rw [h]
    have := all7 (fun t k => ((cnt (t &&& (127 - 2 ^ k)) : Int)) == if t.testBit k then (cnt t : Int) - 1 else cnt t) (by decide +kernel) t k ht hk
    simpa only [beq_iff_eq] using this
theorem wth_twice (t : Nat) (id : Int) : wth (wth t id) id = wth t id := by unfold wth; rw [Nat.or_assoc, Nat.or_self]
theorem wout_twice (t : Nat) (id : Int) : wout (wout t id) id = wout t id := by unfold wout; rw [Nat.and_assoc, Nat.and_self]
theorem wth_out (t : Nat) {id : Int} (h : id < 1 ∨ 7 < id) : wth t id = t := by unfold wth; rw [one_out h]; simp
theorem wout_out (t : Nat) (ht : t < 128) {id : Int} (h : id < 1 ∨ 7 < id) : wout t id = t := by
  unfold wout; rw [one_out h]
  exact and127 t ht

/-- Lists of a team. -/
theorem lstTo_succ (t k : Nat) : lstTo t (k + 1) = lstTo t k ++ if t.testBit k then [(k : Int) + 1] else [] := by
  unfold lstTo
  rw [List.range_succ, List.filter_append, List.map_append]
  by_cases h : t.testBit k <;> simp [h]
theorem lstTo_le (t k : Nat) : (lstTo t k).length ≤ k := by
  unfold lstTo; rw [List.length_map]; exact Nat.le_trans (List.length_filter_le _ _) (by simp)
theorem lst_length (t : Nat) : (lst t).length = cnt t := by
  unfold lst lstTo cnt; rw [List.length_map, List.countP_eq_length_filter]
theorem lst_mem (t : Nat) (ht : t < 128) (i : Int) : i ∈ lst t ↔ has t i = true := by
  unfold lst lstTo
  rw [List.mem_map]
  constructor
  · rintro ⟨k, hk, rfl⟩
    rw [List.mem_filter, List.mem_range] at hk
    rw [has_in t k ht hk.1]; exact hk.2
  · intro h
    have hi : 1 ≤ i ∧ i ≤ 7 := by
      by_cases hh : 1 ≤ i ∧ i ≤ 7
      · exact hh
      · rw [has_out t (by omega)] at h; cases h
    obtain ⟨k, rfl⟩ : ∃ k : Nat, i = k + 1 := ⟨(i - 1).toNat, by omega⟩
    rw [has_in t k ht (by omega)] at h
    exact ⟨k, List.mem_filter.2 ⟨List.mem_range.2 (by omega), h⟩, rfl⟩
theorem lst_rise (t : Nat) (ht : t < 128) (i : Nat) (h : i + 1 < cnt t) : (lst t).getD i 0 < (lst t).getD (i + 1) 0 := by
  have := all7 (fun t i => decide (i + 1 < cnt t → (lst t).getD i 0 < (lst t).getD (i + 1) 0)) (by decide +kernel) t i ht (by have := cnt_le t; omega)
  exact of_decide_eq_true this h
/-- How many of the first so many. -/
def cntTo (t k : Nat) : Nat := (lstTo t k).length
theorem cnt_all (t : Nat) : cntTo t 7 = cnt t := lst_length t
theorem cntTo_succ (t k : Nat) (ht : t < 128) (hk : k < 7) : cntTo t (k + 1) = cntTo t k + if has t ((k : Int) + 1) then 1 else 0 := by
  unfold cntTo; rw [lstTo_succ, has_in t k ht hk, List.length_append]
  cases t.testBit k <;> rfl

/-- Which may be, by bits. -/
theorem mask_zero (x n : Nat) (hx : x < 2 ^ 64) : (x &&& (2 ^ 64 - ((2 ^ n - 1) + 1)) = 0) ↔ x < 2 ^ n := by
  by_cases hn : 64 ≤ n
  · have h1 : 2 ^ 64 ≤ 2 ^ n := Nat.pow_le_pow_right (by decide) hn
    have h2 : 2 ^ 64 - ((2 ^ n - 1) + 1) = 0 := by omega
    rw [h2, Nat.and_zero]
    exact ⟨fun _ => by omega, fun _ => rfl⟩
  have hm : 2 ^ n - 1 < 2 ^ 64 := Nat.lt_of_lt_of_le (Nat.sub_lt (Nat.two_pow_pos n) (by decide)) (Nat.pow_le_pow_right (by decide) (by omega))
  constructor
  · intro h
    apply Nat.lt_pow_two_of_testBit
    intro i hi
    by_cases hb : i < 64
    · have := congrArg (fun y => y.testBit i) h
      simp only [Nat.testBit_and, Nat.testBit_two_pow_sub_succ hm, Nat.testBit_two_pow_sub_one, Nat.zero_testBit] at this
      have h1 : ¬ i < n := by omega
      simpa [hb, h1] using this
    · exact Nat.testBit_lt_two_pow (Nat.lt_of_lt_of_le hx (Nat.pow_le_pow_right (by decide) (by omega)))
  · intro h
    apply Nat.eq_of_testBit_eq
    intro i
    rw [Nat.testBit_and, Nat.testBit_two_pow_sub_succ hm, Nat.testBit_two_pow_sub_one, Nat.zero_testBit]
    by_cases hi : i < n
    · simp [hi]
    · rw [Nat.testBit_lt_two_pow (Nat.lt_of_lt_of_le h (Nat.pow_le_pow_right (by decide) (by omega)))]; simp

theorem meet_pos (t u : Nat) (n : Int) (h1 : most t n = true) (h2 : most u n = true) : 0 < cnt (t &&& u) := by
  unfold most may at h1 h2
  simp only [Bool.and_eq_true, decide_eq_true_eq, Int.toNat_natCast] at h1 h2
  obtain ⟨⟨⟨h3, h7⟩, -, ht⟩, ct⟩ := h1
  obtain ⟨⟨-, -, hu⟩, cu⟩ := h2
  obtain ⟨m, rfl⟩ : ∃ m : Nat, n = m := ⟨n.toNat, by omega⟩
  rw [Int.toNat_natCast] at ht hu
  have ht' : t < 2 ^ m := by exact_mod_cast ht
  have hu' : u < 2 ^ m := by exact_mod_cast hu
  have key : ∀ m ∈ [3, 4, 5, 6, 7], (List.range (2 ^ m)).all (fun t => !decide (m / 2 < cnt t) || (List.range (2 ^ m)).all fun u => !decide (m / 2 < cnt u) || decide (0 < cnt (t &&& u))) = true := by decide +kernel
  have hm : m ∈ [3, 4, 5, 6, 7] := by
    have : m = 3 ∨ m = 4 ∨ m = 5 ∨ m = 6 ∨ m = 7 := by omega
    simp [this]
  have k1 := List.all_eq_true.1 (key m hm) t (List.mem_range.2 ht')
  have e1 : m / 2 < cnt t := by omega
  have e2 : m / 2 < cnt u := by omega
  simp only [e1, decide_true, Bool.not_true, Bool.false_or] at k1
  have k2 := List.all_eq_true.1 k1 u (List.mem_range.2 hu')
  simpa [e2] using k2

/-- How many of -1 and the next so many. -/
def cntFrom (t k : Nat) : Nat := (List.range k).countP fun j : Nat => has t ((j : Int) - 1)
theorem cntFrom_succ (t k : Nat) : cntFrom t (k + 1) = cntFrom t k + if has t ((k : Int) - 1) then 1 else 0 := by
  unfold cntFrom; rw [List.range_succ, List.countP_append, List.countP_singleton]
theorem cntFrom_le (t k : Nat) : cntFrom t k ≤ k := by unfold cntFrom; exact Nat.le_trans List.countP_le_length (by simp)
theorem cntFrom_all (t : Nat) (ht : t < 128) : cntFrom t 11 = cnt t := by
  have := all1 (fun t => cntFrom t 11 == cnt t) (by decide +kernel) t ht
  simpa using this
theorem ofL_snoc (l : List Int) (x : Int) : ofL (l ++ [x]) = wth (ofL l) x := by unfold ofL; rw [List.foldl_append]; rfl
/-- One more of a list. -/
theorem has_snoc (l : List Int) (x i : Int) : has (ofL (l ++ [x])) i = (has (ofL l) i || (decide (x = i) && decide (1 ≤ i) && decide (i ≤ 7))) := by
  rw [ofL_snoc]
  by_cases h : 1 ≤ i ∧ i ≤ 7
  · rw [has_wth _ (ofL_lt l) x i h.1 h.2]
    have e : decide (i = x) = decide (x = i) := decide_eq_decide.2 ⟨fun h => h.symm, fun h => h.symm⟩
    simp [h.1, h.2, e]
  · rw [has_out _ (by omega), has_out _ (by omega)]
    by_cases h1 : 1 ≤ i
    · have : ¬ i ≤ 7 := fun h7 => h ⟨h1, h7⟩
      simp [this]
    · simp [h1]

/-- Those that decide in so many views, from one whose place is r. -/
def turn (r n k : Nat) : Nat := ofL ((List.range k).map fun i => 1 + (((r + i) % n : Nat) : Int))
theorem turn_succ (r n k : Nat) : turn r n (k + 1) = wth (turn r n k) (1 + (((r + k) % n : Nat) : Int)) := by
  unfold turn; rw [List.range_succ, List.map_append]; exact ofL_snoc _ _
theorem turn_lt (r n k : Nat) : turn r n k < 128 := ofL_lt _
theorem turn_new (r n k : Nat) (h3 : 3 ≤ n) (h7 : n ≤ 7) (hr : r < n) (hk : k < n) : has (turn r n k) (1 + (((r + k) % n : Nat) : Int)) = false := by
  have key : [3, 4, 5, 6, 7].all (fun n => (List.range n).all fun r => (List.range n).all fun k => has (turn r n k) (1 + (((r + k) % n : Nat) : Int)) == false) = true := by decide +kernel
  have hm : n ∈ [3, 4, 5, 6, 7] := by
    have : n = 3 ∨ n = 4 ∨ n = 5 ∨ n = 6 ∨ n = 7 := by omega
    simp [this]
  have := List.all_eq_true.1 (List.all_eq_true.1 (List.all_eq_true.1 key n hm) r (List.mem_range.2 hr)) k (List.mem_range.2 hk)
  simpa using this
theorem turn_all (r n : Nat) (h3 : 3 ≤ n) (h7 : n ≤ 7) (hr : r < n) : cnt (turn r n n) = n ∧ most (turn r n n) n = true := by
  have key : [3, 4, 5, 6, 7].all (fun n => (List.range n).all fun r => cnt (turn r n n) == n && most (turn r n n) n) = true := by decide +kernel
  have hm : n ∈ [3, 4, 5, 6, 7] := by
    have : n = 3 ∨ n = 4 ∨ n = 5 ∨ n = 6 ∨ n = 7 := by omega
    simp [this]
  have := List.all_eq_true.1 (List.all_eq_true.1 key n hm) r (List.mem_range.2 hr)
  simpa using this
theorem turn_is (v : Int) (n k : Nat) (hv : 1 ≤ v) (h3 : 3 ≤ n) (h7 : n ≤ 7) : decider (v + k) n = 1 + ((((v - 1) % n).toNat + k) % n : Nat) := by
  unfold decider; rw [if_neg (by omega)]
  have q1 := Int.emod_nonneg (v - 1) (show (n : Int) ≠ 0 by omega)
  have e : ((((v - 1) % n).toNat + k) % n : Nat) = ((((v - 1) % n + k) % n : Int)) := by rw [Int.natCast_emod, Int.natCast_add, Int.toNat_of_nonneg q1]
  rw [e, Int.emod_add_emod]
  congr 2; omega
end Go.Proofs.Ytnpobagipgephaa.PTeam
