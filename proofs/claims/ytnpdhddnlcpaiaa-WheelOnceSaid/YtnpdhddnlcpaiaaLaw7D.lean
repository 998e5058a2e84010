/- The walk of WheelOnce. -/
import Derived.Test.YtnpdhddnlcpaiaaLaw7C
import Derived.Test.YtnpdhddnlcpaiaaHeld
namespace Go.Proofs.Ytnpdhddnlcpaiaa
open Go.RowKit

section
variable {a : Nat → Int} {n k : Nat} {done : Bool} {now nw : Int} {T : List (Int × Bool)} {M : List Int} {L : List Bool}
/-- The first n are set, but for those that went off. -/
def HasT (a : Nat → Int) (n : Nat) (done : Bool) (now : Int) (T : List (Int × Bool)) : Prop :=
  ∀ j, PWheel.tm T j = if j < n ∧ ¬ (done = true ∧ a j ≤ now) then (a j, true) else (0, false)
theorem HasT.start (a : Nat → Int) : HasT a 0 false 0 PWheel.zero := fun j => by rw [PWheel.tm_zero, if_neg (by omega)]
theorem HasT.more (h : HasT a n false now T) (hl : T.length = 64) (hn : n < 64) : HasT a (n + 1) false now (T.set n (a n, true)) := fun j => by
  rw [PWheel.tm_set _ _ _ _ (by omega), h j]
  by_cases e : n = j
  · subst e; simp
  · rw [if_neg e]
    by_cases h1 : j < n
    · rw [if_pos ⟨h1, by simp⟩, if_pos ⟨by omega, by simp⟩]
    · rw [if_neg (by omega), if_neg (by omega)]
theorem HasT.mem (h : HasT a n done now T) (hn : n ≤ 64) (h0 : -1099511627776 ≤ nw) (h1 : now ≤ nw) (h2 : nw ≤ 1099511627776) (j : Nat) : (j : Int) ∈ PWheel.goD T now nw ↔ j < n ∧ ¬ (done = true ∧ a j ≤ now) ∧ a j ≤ nw := by
  have hg : PWheel.goes now nw = true := by simp [PWheel.goes, PWheel.isT]; omega
  unfold PWheel.goD
  rw [if_pos hg, PWheel.mem_due, Int.toNat_natCast]
  unfold PWheel.off
  rw [h j]
  by_cases hj : j < n ∧ ¬ (done = true ∧ a j ≤ now)
  · rw [if_pos hj]
    simp only [Bool.true_and, decide_eq_true_eq]
    exact ⟨fun x => ⟨hj.1, hj.2, x.2.2⟩, fun x => ⟨by omega, by omega, x.2.2⟩⟩
  · rw [if_neg hj]
    simp only [Bool.false_and]
    exact ⟨fun x => by simp at x, fun x => absurd ⟨x.1, x.2.1⟩ hj⟩
theorem HasT.next (h : HasT a n done now T) (hn : n ≤ 64) (h0 : -1099511627776 ≤ nw) (h1 : now ≤ nw) (h2 : nw ≤ 1099511627776) (hp : M.Perm (PWheel.goD T now nw)) : HasT a n true nw (PWheel.clr T M) := fun j => by
  rw [PWheel.tm_clr _ _ _ (fun x hx => (goes_mem (hp.mem_iff.1 hx)).1), h j]
  have hm : (j : Int) ∈ M ↔ j < n ∧ ¬ (done = true ∧ a j ≤ now) ∧ a j ≤ nw := hp.mem_iff.trans (h.mem hn h0 h1 h2 j)
  by_cases hj : j < n
  · by_cases ha : a j ≤ nw
    · rw [if_neg (fun x : j < n ∧ ¬ (true = true ∧ a j ≤ nw) => x.2 ⟨rfl, ha⟩)]
      by_cases hd : done = true ∧ a j ≤ now
      · rw [if_neg (fun x : j < n ∧ ¬ (done = true ∧ a j ≤ now) => x.2 hd)]; split <;> rfl
      · rw [if_pos (hm.2 ⟨hj, hd, ha⟩)]
    · rw [if_neg (fun x => ha (hm.1 x).2.2), if_pos ⟨hj, fun x => ha (by omega)⟩, if_pos ⟨hj, fun x => ha x.2⟩]
  · rw [if_neg (fun x => hj (hm.1 x).1), if_neg (fun x => hj x.1), if_neg (fun x => hj x.1)]

/-- Who was seen, behind k of those that go off now. -/
def SeenK (a : Nat → Int) (n : Nat) (done : Bool) (was : Int) (M : List Int) (k : Nat) (L : List Bool) : Prop :=
  L.length = n ∧ ∀ j, j < n → L.getD j false = ((done && decide (a j ≤ was)) || decide ((j : Int) ∈ M.take k))
def SeenIs (a : Nat → Int) (n : Nat) (done : Bool) (now : Int) (L : List Bool) : Prop := L.length = n ∧ ∀ j, j < n → L.getD j false = (done && decide (a j ≤ now))
theorem SeenIs.start (a : Nat → Int) (n : Nat) : SeenIs a n false 0 (List.replicate n false) := ⟨by simp, fun j hj => by simp [List.getD, hj]⟩
theorem SeenIs.zero (h : SeenIs a n done now L) (M : List Int) : SeenK a n done now M 0 L := ⟨h.1, fun j hj => by rw [h.2 j hj]; simp⟩
theorem SeenK.no (h : SeenK a n done now M k L) {j : Nat} (hj : j < n) (h1 : ¬ (done = true ∧ a j ≤ now)) (h2 : (j : Int) ∉ M.take k) : L.getD j false = false := by
  rw [h.2 j hj]
  cases done
  · simp [h2]
  · simp at h1; simp [h2, h1]
theorem SeenK.step (h : SeenK a n done now M k L) {j : Nat} {M' : List Int} (hj : j < n) (hd : M.drop k = (j : Int) :: M') : SeenK a n done now M (k + 1) (L.set j true) := by
  have ht : M.take (k + 1) = M.take k ++ [(j : Int)] := by rw [List.take_add, hd]; simp
  refine ⟨by rw [List.length_set]; exact h.1, fun i hi => ?_⟩
  rw [ht]
  simp only [List.getD, List.getElem?_set]
  by_cases e : j = i
  · subst e
    rw [if_pos rfl, if_pos (by rw [h.1]; exact hj)]; simp
  · rw [if_neg e]
    have := h.2 i hi
    simp only [List.getD] at this
    rw [this]
    have e2 : ¬ (i : Int) = (j : Int) := by omega
    simp [e2]
theorem SeenK.fin (h : SeenK a n done now M k L) (hk : M.length ≤ k) (h1 : now ≤ nw) (hm : ∀ j : Nat, (j : Int) ∈ M ↔ j < n ∧ ¬ (done = true ∧ a j ≤ now) ∧ a j ≤ nw) : SeenIs a n true nw L := by
  refine ⟨h.1, fun j hj => ?_⟩
  rw [h.2 j hj, List.take_of_length_le hk, Bool.true_and]
  by_cases ha : a j ≤ nw
  · by_cases hd : done = true ∧ a j ≤ now
    · simp [hd.1, hd.2, ha]
    · simp [(hm j).2 ⟨hj, hd, ha⟩, ha]
  · have h2 : (j : Int) ∉ M := fun x => ha ((hm j).1 x).2.2
    have h3 : ¬ a j ≤ now := by omega
    simp [ha, h2, h3]
theorem not_twice {kf : Int → Int} (hs : M.Pairwise (PSort.lt kf)) {x : Int} {M' : List Int} (hd : M.drop k = x :: M') : x ∉ M.take k := by
  intro hx
  have h : (M.take k ++ M.drop k).Pairwise (PSort.lt kf) := by rw [List.take_append_drop]; exact hs
  rw [hd] at h
  exact PSort.lt_asymm ((List.pairwise_append.1 h).2.2 x hx x (by simp)) ((List.pairwise_append.1 h).2.2 x hx x (by simp))
end

/-- Bools, as cells. -/
def bo (L : List Bool) : List Value := L.map Value.bool
theorem bo_at {L : List Bool} {j : Nat} (h : j < L.length) : (bo L)[j]? = some (.bool (L.getD j false)) := by
  simp [bo, List.getD, List.getElem?_eq_getElem h]
theorem bo_set (L : List Bool) (j : Nat) (b : Bool) : (bo L).set j (.bool b) = bo (L.set j b) := by simp [bo, List.map_set]
theorem own_type {w : World} {base k n c g : Nat} {e e' : TypeId} {xs ys : List Value} (h : w.ownsRow base e k (.slice (some ⟨g, 0, none⟩) n c) n xs) (h' : Blk w g e' ys) : e = e' := by
  rcases h.2 with ⟨h2, _⟩ | ⟨g', cap, cur, hv, _, hh, _⟩
  · cases h2
  · cases hv
    have := hh.symm.trans h'
    simp at this
    exact this.2
end Go.Proofs.Ytnpdhddnlcpaiaa
