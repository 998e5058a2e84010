/- Counts, plain. -/
import Derived.Lib.Hide
namespace Go.Proofs.Ytkfgnnnlhpaglaa.PTally

def inn (k : Int) : Bool := decide (0 ≤ k ∧ k < 16)
def get (z : List Int) (k : Int) : Int := if inn k then z.getD k.toNat 0 else 0
def add (z : List Int) (k : Int) : List Int := if inn k then z.set k.toNat (z.getD k.toNat 0 + 1) else z
def zero : List Int := List.replicate 16 0
/-- All counts are 0 or more; their sum is at most m. -/
def ok (z : List Int) (m : Int) : Prop := z.length = 16 ∧ (∀ x ∈ z, 0 ≤ x) ∧ z.sum ≤ m

theorem zero_ok : ok zero 0 := ⟨rfl, by decide, by decide⟩
theorem ok.more {z : List Int} {m m' : Int} (h : ok z m) (hm : m ≤ m') : ok z m' := ⟨h.1, h.2.1, Int.le_trans h.2.2 hm⟩
theorem sum_nonneg : ∀ {z : List Int}, (∀ x ∈ z, 0 ≤ x) → 0 ≤ z.sum
  | [], _ => by simp
  | x :: z, h => by
    have h1 := h x (by simp)
    have h2 := sum_nonneg (z := z) fun y hy => h y (by simp [hy])
    simp only [List.sum_cons]; omega
theorem sum_take_le : ∀ {z : List Int} (_ : ∀ x ∈ z, 0 ≤ x) (i : Nat), 0 ≤ (z.take i).sum ∧ (z.take i).sum ≤ z.sum
  | [], _, i => by simp
  | x :: z, h, 0 => by
    have := sum_nonneg h
    simpa using this
  | x :: z, h, i + 1 => by
    have h1 := h x (by simp)
    have h2 := sum_take_le (z := z) (fun y hy => h y (by simp [hy])) i
    simp only [List.take_succ_cons, List.sum_cons]; omega
theorem getD_le : ∀ {z : List Int} (_ : ∀ x ∈ z, 0 ≤ x) (i : Nat), 0 ≤ z.getD i 0 ∧ z.getD i 0 ≤ z.sum
  | [], _, i => by simp
  | x :: z, h, 0 => by
    have h1 := h x (by simp)
    have h2 := sum_nonneg (z := z) fun y hy => h y (by simp [hy])
    simp only [List.getD_cons_zero, List.sum_cons]; omega
  | x :: z, h, i + 1 => by
    have h1 := h x (by simp)
    have h2 := getD_le (z := z) (fun y hy => h y (by simp [hy])) i
    simp only [List.getD_cons_succ, List.sum_cons]; omega
theorem sum_set : ∀ (z : List Int) (i : Nat), i < z.length → (z.set i (z.getD i 0 + 1)).sum = z.sum + 1
  | [], i, h => by simp at h
  | x :: z, 0, _ => by simp only [List.set_cons_zero, List.getD_cons_zero, List.sum_cons]; omega
  | x :: z, i + 1, h => by
    have := sum_set z i (by simpa using h)
    simp only [List.set_cons_succ, List.getD_cons_succ, List.sum_cons, this]; omega
theorem take_succ_sum (z : List Int) (i : Nat) (h : i < z.length) : (z.take (i + 1)).sum = (z.take i).sum + z.getD i 0 := by
  rw [List.take_succ_eq_append_getElem h, List.sum_append]
  simp [List.getD, List.getElem?_eq_getElem h]
theorem mem_set {z : List Int} {i : Nat} {x y : Int} (h : y ∈ z.set i x) : y ∈ z ∨ y = x := List.mem_or_eq_of_mem_set h
theorem add_ok {z : List Int} {m : Int} (h : ok z m) (k : Int) : ok (add z k) (m + 1) := by
  unfold add
  split
  · next hk =>
    have hk' := of_decide_eq_true hk
    refine ⟨by rw [List.length_set]; exact h.1, fun x hx => ?_, ?_⟩
    · rcases mem_set hx with hx | rfl
      · exact h.2.1 x hx
      · have := (getD_le h.2.1 k.toNat).1; omega
    · rw [sum_set _ _ (by rw [h.1]; omega)]; have := h.2.2; omega
  · exact h.more (by omega)
theorem add_sum {z : List Int} {m : Int} (h : ok z m) (k : Int) : (add z k).sum = z.sum + (if inn k then 1 else 0) := by
  unfold add
  split
  · next hk =>
    have hk' := of_decide_eq_true hk
    rw [sum_set _ _ (by rw [h.1]; omega)]
  · simp
theorem get_add {z : List Int} {m : Int} (h : ok z m) {k : Int} (hk : inn k = true) : get (add z k) k = z.getD k.toNat 0 + 1 := by
  have hk' := of_decide_eq_true hk
  unfold get add
  rw [if_pos hk, if_pos hk]
  have hl : k.toNat < z.length := by rw [h.1]; omega
  simp [List.getD, hl]
theorem get_out {z : List Int} {k : Int} (hk : inn k = false) : get z k = 0 := by unfold get; rw [hk]; rfl
theorem add_out {z : List Int} {k : Int} (hk : inn k = false) : add z k = z := by unfold add; rw [hk]; rfl
/-- One kind alone, j times. -/
def one (k : Nat) (j : Nat) : List Int := zero.set k j
theorem zero_getD (k : Nat) : zero.getD k 0 = 0 := by
  by_cases h : k < 16
  · have : ∀ k, k < 16 → zero.getD k 0 = 0 := by decide
    exact this k h
  · have : zero.length = 16 := rfl
    simp [List.getD, List.getElem?_eq_none (show zero.length ≤ k by omega)]
theorem one_zero (k : Nat) (h : k < 16) : one k 0 = zero := by
  have : ∀ k, k < 16 → one k 0 = zero := by decide
  exact this k h
theorem one_getD (k j : Nat) (h : k < 16) : (one k j).getD k 0 = j := by
  have hl : k < zero.length := h
  simp [one, List.getD, hl]
theorem one_get (k j : Nat) (h : k < 16) : get (one k j) k = j := by
  unfold get
  have : inn k = true := by simp [inn]; omega
  rw [if_pos this, Int.toNat_natCast, one_getD k j h]
theorem one_add (k j : Nat) (h : k < 16) : add (one k j) k = one k (j + 1) := by
  unfold add
  have : inn k = true := by simp [inn]; omega
  rw [if_pos this, Int.toNat_natCast, one_getD k j h]
  simp [one]
theorem one_sum (k : Nat) (h : k < 16) : ∀ j : Nat, (one k j).sum = j
  | 0 => by rw [one_zero k h]; rfl
  | j + 1 => by
    have := sum_set (one k j) k (by rw [one, List.length_set]; exact h)
    rw [one_getD k j h, one_sum k h j] at this
    have e : (one k j).set k ((j : Int) + 1) = one k (j + 1) := by simp [one]
    rw [e] at this
    rw [this]; omega
theorem one_ok (k j : Nat) (h : k < 16) : ok (one k j) j := by
  refine ⟨by rw [one, List.length_set]; rfl, fun x hx => ?_, by rw [one_sum k h]; omega⟩
  rcases mem_set hx with hx | rfl
  · rw [zero, List.mem_replicate] at hx; omega
  · omega
end Go.Proofs.Ytkfgnnnlhpaglaa.PTally
