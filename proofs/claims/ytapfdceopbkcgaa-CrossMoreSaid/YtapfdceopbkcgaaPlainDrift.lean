/- Plain mathematics of clocks' readings: which keep a bound, the first that does not. A reading is a pair: real time, clock. No program is named here. -/
import Derived.Test.YtapfdceopbkcgaaPlainSpan
namespace Go.Proofs.Ytapfdceopbkcgaa.PDrift

def pr (l : List (Int × Int)) (i : Nat) : Int × Int := l.getD i (0, 0)
/-- A time. -/
def T (a : Int) : Prop := -1099511627776 ≤ a ∧ a ≤ 1099511627776
instance (a : Int) : Decidable (T a) := by unfold T; infer_instance
def Rate (d : Int) : Prop := 0 ≤ d ∧ d ≤ 500000
instance (d : Int) : Decidable (Rate d) := by unfold Rate; infer_instance
def Rdg (p : Int × Int) : Prop := T p.1 ∧ T p.2
instance (p : Int × Int) : Decidable (Rdg p) := by unfold Rdg; infer_instance
/-- The i-th is a reading and not ahead of the one before it. -/
def Ok1 (l : List (Int × Int)) (i : Nat) : Prop := Rdg (pr l i) ∧ (0 < i → (pr l (i - 1)).1 ≤ (pr l i).1)
instance (l : List (Int × Int)) (i : Nat) : Decidable (Ok1 l i) := by unfold Ok1; infer_instance
def Good (l : List (Int × Int)) : Prop := ∀ i, i < l.length → Ok1 l i
instance (l : List (Int × Int)) : Decidable (Good l) := by unfold Good; infer_instance
/-- Two readings keep the bound. -/
def keeps (d : Int) (a b : Int × Int) : Prop :=
  0 ≤ b.2 - a.2 ∧ (b.1 - a.1) * (1000000 - d) - 1000000 ≤ (b.2 - a.2) * 1000000 ∧ (b.2 - a.2) * 1000000 ≤ (b.1 - a.1) * (1000000 + d) + 1000000
instance (d : Int) (a b : Int × Int) : Decidable (keeps d a b) := by unfold keeps; infer_instance
/-- The i-th keeps it with all ahead of it. -/
def Kept (l : List (Int × Int)) (d : Int) (i : Nat) : Prop := ∀ k, k < i → keeps d (pr l k) (pr l i)
instance (l : List (Int × Int)) (d : Int) (i : Nat) : Decidable (Kept l d i) := by unfold Kept; infer_instance
def fault (l : List (Int × Int)) (d : Int) : Int :=
  if Rate d ∧ Good l then match (List.range l.length).find? (fun i => !decide (Kept l d i)) with | some i => (i : Int) + 1 | none => -1 else 0

theorem fault_bad {l : List (Int × Int)} {d : Int} (h : ¬ (Rate d ∧ Good l)) : fault l d = 0 := if_neg h
theorem fault_none {l : List (Int × Int)} {d : Int} (h1 : Rate d) (h2 : Good l) (h : ∀ i, i < l.length → Kept l d i) : fault l d = -1 := by
  unfold fault
  rw [if_pos ⟨h1, h2⟩]
  have : (List.range l.length).find? (fun i => !decide (Kept l d i)) = none := by
    simp only [List.find?_eq_none, List.mem_range]
    intro i hi
    simp [h i hi]
  rw [this]
theorem fault_some {l : List (Int × Int)} {d : Int} {i : Nat} (h1 : Rate d) (h2 : Good l) (hi : i < l.length) (h : ∀ j, j < i → Kept l d j) (hb : ¬ Kept l d i) : fault l d = (i : Int) + 1 := by
  unfold fault
  rw [if_pos ⟨h1, h2⟩]
  have : (List.range l.length).find? (fun i => !decide (Kept l d i)) = some i := by
    rw [List.find?_range_eq_some]
    refine ⟨by simp [hb], by simpa using hi, fun j hj => by simp [h j hj]⟩
  rw [this]
theorem none_kept {l : List (Int × Int)} {d : Int} (h : fault l d = -1) : Rate d ∧ Good l ∧ ∀ i, i < l.length → Kept l d i := by
  unfold fault at h
  split at h
  · rename_i hc
    refine ⟨hc.1, hc.2, ?_⟩
    split at h
    · rename_i i hi
      exfalso; omega
    · rename_i hn
      rw [List.find?_eq_none] at hn
      intro i hi
      have := hn i (by simpa using hi)
      simpa using this
  · exfalso; omega

/-- How far above the slowest, the fastest clock. -/
def slow (d : Int) (p : Int × Int) : Int := p.2 * 1000000 - p.1 * (1000000 - d)
def fast (d : Int) (p : Int × Int) : Int := p.2 * 1000000 - p.1 * (1000000 + d)
def mk (d : Int) (p : Int × Int) : Int × Int × Int := (p.2, slow d p, fast d p)
def mkeeps (m n : Int × Int × Int) : Prop := m.1 ≤ n.1 ∧ m.2.1 - 1000000 ≤ n.2.1 ∧ n.2.2 ≤ m.2.2 + 1000000
instance (m n : Int × Int × Int) : Decidable (mkeeps m n) := by unfold mkeeps; infer_instance
def mwith (m n : Int × Int × Int) : Int × Int × Int := (max m.1 n.1, max m.2.1 n.2.1, min m.2.2 n.2.2)
/-- No sum with a million wraps. -/
def Bd (m : Int × Int × Int) : Prop := -4000000000000000000 ≤ m.2.1 ∧ m.2.1 ≤ 4000000000000000000 ∧ -4000000000000000000 ≤ m.2.2 ∧ m.2.2 ≤ 4000000000000000000

theorem keeps_mk (d : Int) (a b : Int × Int) : keeps d a b ↔ mkeeps (mk d a) (mk d b) := by
  unfold keeps mkeeps mk slow fast
  simp only [Int.sub_mul]
  omega
/-- m binds what comes behind as the first i readings do. -/
def Acc (l : List (Int × Int)) (d : Int) (i : Nat) (m : Int × Int × Int) : Prop :=
  (∀ x, m.1 ≤ x ↔ ∀ k, k < i → (pr l k).2 ≤ x) ∧ (∀ x, m.2.1 ≤ x ↔ ∀ k, k < i → slow d (pr l k) ≤ x) ∧ (∀ x, x ≤ m.2.2 ↔ ∀ k, k < i → x ≤ fast d (pr l k))
theorem Acc.kept {l : List (Int × Int)} {d : Int} {i : Nat} {m : Int × Int × Int} (h : Acc l d i m) : mkeeps m (mk d (pr l i)) ↔ Kept l d i := by
  obtain ⟨h1, h2, h3⟩ := h
  have e1 := h1 (pr l i).2
  have e2 := h2 (slow d (pr l i) + 1000000)
  have e3 := h3 (fast d (pr l i) - 1000000)
  constructor
  · rintro ⟨a1, a2, a3⟩ k hk
    rw [keeps_mk]
    have b1 := e1.1 a1 k hk
    have b2 := e2.1 (by simp only [mk] at a2; omega) k hk
    have b3 := e3.1 (by simp only [mk] at a3; omega) k hk
    refine ⟨b1, ?_, ?_⟩ <;> simp only [mk] <;> omega
  · intro hk
    have hk' : ∀ k, k < i → mkeeps (mk d (pr l k)) (mk d (pr l i)) := fun k h => (keeps_mk _ _ _).1 (hk k h)
    refine ⟨e1.2 fun k h => (hk' k h).1, ?_, ?_⟩
    · have := e2.2 fun k h => by have := (hk' k h).2.1; simp only [mk] at this; omega
      simp only [mk]; omega
    · have := e3.2 fun k h => by have := (hk' k h).2.2; simp only [mk] at this; omega
      simp only [mk]; omega
theorem all_succ {i : Nat} {P : Nat → Prop} : (∀ k, k < i + 1 → P k) ↔ (∀ k, k < i → P k) ∧ P i :=
  ⟨fun h => ⟨fun k hk => h k (by omega), h i (by omega)⟩, fun h k hk => by
    rcases Nat.lt_or_ge k i with hk' | hk'
    · exact h.1 k hk'
    · obtain rfl : k = i := by omega
      exact h.2⟩
theorem Acc.with {l : List (Int × Int)} {d : Int} {i : Nat} {m : Int × Int × Int} (h : Acc l d i m) : Acc l d (i + 1) (mwith m (mk d (pr l i))) := by
  obtain ⟨h1, h2, h3⟩ := h
  refine ⟨fun x => ?_, fun x => ?_, fun x => ?_⟩
  · rw [all_succ, ← h1]; simp only [mwith, mk]; omega
  · rw [all_succ, ← h2]; simp only [mwith, mk]; omega
  · rw [all_succ, ← h3]; simp only [mwith, mk]; omega
theorem Acc.first (l : List (Int × Int)) (d : Int) : Acc l d 1 (mwith (mk d (pr l 0)) (mk d (pr l 0))) := by
  refine ⟨fun x => ?_, fun x => ?_, fun x => ?_⟩
  · rw [all_succ]; simp only [mwith, mk]; exact ⟨fun h => ⟨fun k hk => absurd hk (by omega), by omega⟩, fun h => by have := h.2; omega⟩
  · rw [all_succ]; simp only [mwith, mk]; exact ⟨fun h => ⟨fun k hk => absurd hk (by omega), by omega⟩, fun h => by have := h.2; omega⟩
  · rw [all_succ]; simp only [mwith, mk]; exact ⟨fun h => ⟨fun k hk => absurd hk (by omega), by omega⟩, fun h => by have := h.2; omega⟩
theorem kept_zero (l : List (Int × Int)) (d : Int) : Kept l d 0 := fun k hk => absurd hk (by omega)
theorem mk_self (m : Int × Int × Int) : mkeeps m m := by unfold mkeeps; omega

/-- Products of a time and a rate. -/
theorem mul_in {a p A P : Int} (h1 : -A ≤ a) (h2 : a ≤ A) (h3 : 0 ≤ p) (h4 : p ≤ P) (hA : 0 ≤ A) : -(A * P) ≤ a * p ∧ a * p ≤ A * P := by
  have m := Int.mul_le_mul_of_nonneg_right h2 h3
  have m2 := Int.mul_le_mul_of_nonneg_right h1 h3
  have m3 := Int.mul_le_mul_of_nonneg_left h4 hA
  rw [Int.neg_mul] at m2
  omega
theorem mk_bd {d : Int} {p : Int × Int} (h : Rdg p) (hd : Rate d) : Bd (mk d p) := by
  obtain ⟨⟨a1, a2⟩, b1, b2⟩ := h
  obtain ⟨d1, d2⟩ := hd
  obtain ⟨m1, m2⟩ := mul_in a1 a2 (show 0 ≤ 1000000 - d by omega) (show 1000000 - d ≤ 1500000 by omega) (by omega)
  obtain ⟨m3, m4⟩ := mul_in a1 a2 (show 0 ≤ 1000000 + d by omega) (show 1000000 + d ≤ 1500000 by omega) (by omega)
  unfold Bd mk slow fast
  simp only
  omega
theorem with_bd {m n : Int × Int × Int} (h : Bd m) (h' : Bd n) : Bd (mwith m n) := by
  unfold Bd mwith at *
  simp only
  omega

theorem reals {l : List (Int × Int)} (h : Good l) {i j : Nat} (hij : i ≤ j) (hj : j < l.length) : (pr l i).1 ≤ (pr l j).1 := by
  induction j with
  | zero => obtain rfl : i = 0 := by omega
            exact Int.le_refl _
  | succ j ih =>
    by_cases e : i = j + 1
    · subst e; exact Int.le_refl _
    · have h1 := ih (by omega) (by omega)
      have h2 := (h (j + 1) hj).2 (by omega)
      rw [show j + 1 - 1 = j from rfl] at h2
      omega

/-- By the document's parts. -/
theorem keeps_parts {d : Int} {a b : Int × Int} : keeps d a b ↔ 0 ≤ b.2 - a.2 ∧ PSpan.up (b.1 - a.1) (1000000 - d) 1000000 - 1 ≤ b.2 - a.2 ∧ b.2 - a.2 ≤ PSpan.dn (b.1 - a.1) (1000000 + d) 1000000 + 1 := by
  unfold keeps
  generalize b.2 - a.2 = c
  generalize b.1 - a.1 = r
  have u : PSpan.up r (1000000 - d) 1000000 ≤ c + 1 ↔ r * (1000000 - d) ≤ (c + 1) * 1000000 :=
    ⟨fun h => by
      have := PSpan.le_up (a := r) (p := 1000000 - d) (q := 1000000) (by omega)
      omega, fun h => PSpan.up_le (by omega) h⟩
  have v : c - 1 ≤ PSpan.dn r (1000000 + d) 1000000 ↔ (c - 1) * 1000000 ≤ r * (1000000 + d) := Int.le_ediv_iff_mul_le (by omega)
  omega

theorem keeps_more {d e : Int} {a b : Int × Int} (h : keeps d a b) (hde : d ≤ e) (hr : a.1 ≤ b.1) : keeps e a b := by
  unfold keeps at *
  have m1 := Int.mul_le_mul_of_nonneg_left (show 1000000 - e ≤ 1000000 - d by omega) (show 0 ≤ b.1 - a.1 by omega)
  have m2 := Int.mul_le_mul_of_nonneg_left (show 1000000 + d ≤ 1000000 + e by omega) (show 0 ≤ b.1 - a.1 by omega)
  omega
theorem fault_more {l : List (Int × Int)} {d e : Int} (h : fault l d = -1) (hde : d ≤ e) (he : e ≤ 500000) : fault l e = -1 := by
  obtain ⟨h1, h2, h3⟩ := none_kept h
  refine fault_none ⟨by have := h1.1; omega, he⟩ h2 fun i hi k hk => keeps_more (h3 i hi k hk) hde (reals h2 (by omega) hi)
theorem pr_take {l : List (Int × Int)} {n i : Nat} (h : i < n) : pr (l.take n) i = pr l i := by
  simp [pr, List.getD, h]
theorem pr_drop {l : List (Int × Int)} {n i : Nat} : pr (l.drop n) i = pr l (n + i) := by
  simp [pr, List.getD, List.getElem?_drop]
theorem fault_take {l : List (Int × Int)} {d : Int} (h : fault l d = -1) (n : Nat) : fault (l.take n) d = -1 := by
  obtain ⟨h1, h2, h3⟩ := none_kept h
  refine fault_none h1 (fun i hi => ?_) (fun i hi k hk => ?_) <;> rw [List.length_take] at hi
  · have := h2 i (by omega)
    unfold Ok1 at *
    rw [pr_take (by omega)]
    exact ⟨this.1, fun h => by rw [pr_take (by omega)]; exact this.2 h⟩
  · rw [pr_take (by omega), pr_take (by omega)]
    exact h3 i (by omega) k hk
theorem fault_drop {l : List (Int × Int)} {d : Int} (h : fault l d = -1) (n : Nat) : fault (l.drop n) d = -1 := by
  obtain ⟨h1, h2, h3⟩ := none_kept h
  refine fault_none h1 (fun i hi => ?_) (fun i hi k hk => ?_) <;> rw [List.length_drop] at hi
  · have := h2 (n + i) (by omega)
    unfold Ok1 at *
    rw [pr_drop, pr_drop]
    exact ⟨this.1, fun h => by
      have := this.2 (by omega)
      rwa [show n + i - 1 = n + (i - 1) by omega] at this⟩
  · rw [pr_drop, pr_drop]
    exact h3 (n + i) (by omega) (n + k) (by omega)
end Go.Proofs.Ytapfdceopbkcgaa.PDrift
