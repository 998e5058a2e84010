/- Timers, plainly: sixty-four times, each set or not. No program is named here. -/
import Derived.Test.YtnpdhddnlcpaiaaPlainSort
namespace Go.Proofs.Ytnpdhddnlcpaiaa.PWheel

def isT (a : Int) : Bool := decide (-1099511627776 ≤ a ∧ a ≤ 1099511627776)
def isI (i : Int) : Bool := decide (0 ≤ i ∧ i < 64)
def zero : List (Int × Bool) := List.replicate 64 (0, false)
def tm (T : List (Int × Bool)) (i : Nat) : Int × Bool := T.getD i (0, false)
/-- What is told of an id. -/
def told (T : List (Int × Bool)) (i : Int) : Int × Bool := if isI i then tm T i.toNat else (0, false)
def key (T : List (Int × Bool)) (i : Int) : Int := (tm T i.toNat).1
/-- Is number i to go off? -/
def off (T : List (Int × Bool)) (now : Int) (i : Nat) : Bool := (tm T i).2 && decide ((tm T i).1 ≤ now)
/-- Those of the first k that are to go off. -/
def due (T : List (Int × Bool)) (now : Int) : Nat → List Int
  | 0 => []
  | k + 1 => due T now k ++ (if off T now k then [(k : Int)] else [])
/-- How many of the first k are set. -/
def cnt (T : List (Int × Bool)) : Nat → Nat
  | 0 => 0
  | k + 1 => cnt T k + (if (tm T k).2 then 1 else 0)
/-- The earliest of the first k. -/
def next (T : List (Int × Bool)) : Nat → Int × Bool
  | 0 => (0, false)
  | k + 1 => if (tm T k).2 && (!(next T k).2 || decide ((tm T k).1 < (next T k).1)) then tm T k else next T k
/-- Those of a list are set no more. -/
def clr (T : List (Int × Bool)) : List Int → List (Int × Bool)
  | [] => T
  | i :: l => clr (T.set i.toNat (0, false)) l

/-- What Set answers, and leaves. -/
def setE (i t : Int) : Int := if isI i && isT t then 0 else 3
def setT (T : List (Int × Bool)) (i t : Int) : List (Int × Bool) := if isI i && isT t then T.set i.toNat (t, true) else T
def stopT (T : List (Int × Bool)) (i : Int) : List (Int × Bool) := if (told T i).2 then T.set i.toNat (0, false) else T
/-- Does the wheel go on to a time, who goes off, what is its time then? -/
def goes (now to : Int) : Bool := isT to && !decide (to < now)
def goD (T : List (Int × Bool)) (now to : Int) : List Int := if goes now to then due T to 64 else []
def goN (now to : Int) : Int := if goes now to then to else now
def newT (now : Int) : Int := if isT now then now else 0
theorem setE_lo {i t : Int} (h : isI i = false) : setE i t = 3 := by simp [setE, h]
theorem setE_no {i t : Int} (h : isT t = false) : setE i t = 3 := by simp [setE, h]
theorem setE_in {i t : Int} (h : isI i = true) (h' : isT t = true) : setE i t = 0 := by simp [setE, h, h']
theorem setT_lo {T : List (Int × Bool)} {i t : Int} (h : isI i = false) : setT T i t = T := by simp [setT, h]
theorem setT_no {T : List (Int × Bool)} {i t : Int} (h : isT t = false) : setT T i t = T := by simp [setT, h]
theorem setT_in {T : List (Int × Bool)} {i t : Int} (h : isI i = true) (h' : isT t = true) : setT T i t = T.set i.toNat (t, true) := by simp [setT, h, h']

theorem cnt_le (T : List (Int × Bool)) : ∀ k, cnt T k ≤ k
  | 0 => Nat.le_refl _
  | k + 1 => by have := cnt_le T k; unfold cnt; split <;> omega
theorem mem_due {T : List (Int × Bool)} {now : Int} : ∀ {k : Nat} {x : Int}, x ∈ due T now k ↔ 0 ≤ x ∧ x < k ∧ off T now x.toNat = true
  | 0, x => by simp [due]; omega
  | k + 1, x => by
    unfold due
    rw [List.mem_append, mem_due]
    constructor
    · rintro (⟨h1, h2, h3⟩ | h)
      · exact ⟨h1, by omega, h3⟩
      · split at h
        · next ho =>
          simp at h; subst h
          exact ⟨by omega, by omega, by simpa using ho⟩
        · simp at h
    · rintro ⟨h1, h2, h3⟩
      by_cases e : x = k
      · subst e
        right
        rw [if_pos (by simpa using h3)]; simp
      · exact .inl ⟨h1, by omega, h3⟩
theorem due_up (T : List (Int × Bool)) (now : Int) : ∀ k, (due T now k).Pairwise (· < ·)
  | 0 => List.Pairwise.nil
  | k + 1 => by
    unfold due
    refine List.pairwise_append.2 ⟨due_up T now k, by split <;> simp, fun x hx y hy => ?_⟩
    have := (mem_due.1 hx).2.1
    split at hy
    · simp at hy; omega
    · simp at hy
theorem due_len (T : List (Int × Bool)) (now : Int) : ∀ k, (due T now k).length ≤ k
  | 0 => Nat.le_refl _
  | k + 1 => by
    have := due_len T now k
    unfold due
    rw [List.length_append]
    split <;> simp <;> omega
theorem clr_len : ∀ (l : List Int) (T : List (Int × Bool)), (clr T l).length = T.length
  | [], _ => rfl
  | i :: l, T => by unfold clr; rw [clr_len]; simp
theorem clr_app : ∀ (l m : List Int) (T : List (Int × Bool)), clr T (l ++ m) = clr (clr T l) m
  | [], _, _ => rfl
  | i :: l, m, T => by simp only [List.cons_append, clr]; rw [clr_app]
theorem tm_set (T : List (Int × Bool)) (i j : Nat) (t : Int × Bool) (hi : i < T.length) : tm (T.set i t) j = if i = j then t else tm T j := by
  unfold tm
  simp only [List.getD, List.getElem?_set]
  split
  · next h => subst h; simp
  · rfl
theorem tm_set0 (T : List (Int × Bool)) (i j : Nat) : tm (T.set i (0, false)) j = if i = j then (0, false) else tm T j := by
  unfold tm
  simp only [List.getD, List.getElem?_set]
  split
  · next h =>
    subst h
    by_cases hi : i < T.length <;> simp [hi]
  · rfl
theorem tm_clr : ∀ (l : List Int) (T : List (Int × Bool)) (j : Nat), (∀ x ∈ l, 0 ≤ x) → tm (clr T l) j = if (j : Int) ∈ l then (0, false) else tm T j
  | [], T, j, _ => by simp [clr]
  | i :: l, T, j, h => by
    unfold clr
    rw [tm_clr l _ j (fun x hx => h x (by simp [hx])), tm_set0]
    have h0 := h i (by simp)
    by_cases hm : (j : Int) ∈ l
    · rw [if_pos hm, if_pos (by simp [hm])]
    · rw [if_neg hm]
      by_cases e : (j : Int) = i
      · rw [if_pos (by omega), if_pos (by simp [e])]
      · rw [if_neg (by omega), if_neg (by simp [e, hm])]
theorem tm_zero (j : Nat) : tm zero j = (0, false) := by
  unfold tm zero
  simp only [List.getD, List.getElem?_replicate]
  split <;> rfl

/-- Nothing earlier is set. -/
theorem next_le {T : List (Int × Bool)} : ∀ {k j : Nat}, j < k → (tm T j).2 = true → (next T k).2 = true ∧ (next T k).1 ≤ (tm T j).1
  | k + 1, j, hj, hs => by
    unfold next
    by_cases e : j = k
    · subst e
      split
      · exact ⟨hs, Int.le_refl _⟩
      · next h => simp [hs] at h; exact ⟨h.1, h.2⟩
    · have := next_le (T := T) (k := k) (j := j) (by omega) hs
      split
      · next h => simp [this.1] at h; exact ⟨h.1, by omega⟩
      · exact this
theorem next_in {T : List (Int × Bool)} : ∀ {k : Nat}, (next T k).2 = true → ∃ j, j < k ∧ tm T j = next T k
  | k + 1, h => by
    unfold next at h ⊢
    split
    · exact ⟨k, by omega, rfl⟩
    · next h' =>
      rw [if_neg h'] at h
      obtain ⟨j, hj, e⟩ := next_in h
      exact ⟨j, by omega, e⟩
theorem next_out {T : List (Int × Bool)} : ∀ {k : Nat}, (∀ j, j < k → (tm T j).2 = false) → next T k = (0, false)
  | 0, _ => rfl
  | k + 1, h => by
    unfold next
    rw [h k (by omega)]
    simpa using next_out fun j hj => h j (by omega)
theorem cnt_out {T : List (Int × Bool)} : ∀ {k : Nat}, (∀ j, j < k → (tm T j).2 = false) → cnt T k = 0
  | 0, _ => rfl
  | k + 1, h => by
    unfold cnt
    rw [h k (by omega), cnt_out fun j hj => h j (by omega)]; rfl

end Go.Proofs.Ytnpdhddnlcpaiaa.PWheel
