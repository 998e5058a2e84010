/- The statement's list of timers against the wheel's own, plainly. No program is named here. -/
import Derived.Test.YtnpdhddnlcpaiaaPlainWheel
namespace Go.Proofs.Ytnpdhddnlcpaiaa.PMod
open PWheel

/-- The list holds each timer that is set, once. -/
structure Mod (l : List (Int × Int)) (T : List (Int × Bool)) : Prop where
  dist : l.Pairwise (fun p q => p.1 ≠ q.1)
  inn : ∀ p ∈ l, 0 ≤ p.1 ∧ p.1 < 64 ∧ tm T p.1.toNat = (p.2, true)
  all : ∀ j : Nat, j < 64 → (tm T j).2 = true → ∃ p ∈ l, p.1 = (j : Int)

section
variable {l l1 l2 : List (Int × Int)} {T : List (Int × Bool)} {i t : Int}
theorem Mod.nil : Mod [] zero := ⟨List.Pairwise.nil, by simp, fun j _ h => by rw [tm_zero] at h; cases h⟩
theorem told_in {p : Int × Int} (h : Mod l T) (hp : p ∈ l) : told T p.1 = (p.2, true) := by
  obtain ⟨h0, h1, h2⟩ := h.inn p hp
  unfold told isI
  rw [if_pos (by simp; omega)]; exact h2
theorem told_out (h : Mod l T) (hn : ∀ p ∈ l, p.1 ≠ i) : (told T i).2 = false := by
  unfold told
  split
  · next hi =>
    have hi := of_decide_eq_true hi
    cases hs : (tm T i.toNat).2
    · rfl
    · obtain ⟨p, hp, e⟩ := h.all i.toNat (by omega) hs
      exact absurd (by rw [e]; omega) (hn p hp)
  · rfl
theorem stop_out (h : Mod l T) (hn : ∀ p ∈ l, p.1 ≠ i) : stopT T i = T := by
  unfold stopT; rw [told_out h hn]; rfl
theorem Mod.other {p : Int × Int} (h : Mod (l1 ++ p :: l2) T) : ∀ q ∈ l1 ++ l2, q.1 ≠ p.1 := by
  intro q hq
  have := List.pairwise_append.1 h.dist
  rcases List.mem_append.1 hq with hq | hq
  · exact this.2.2 q hq p (by simp)
  · exact fun e => (List.pairwise_cons.1 this.2.1).1 q hq e.symm
theorem Mod.rest {p : Int × Int} (h : Mod (l1 ++ p :: l2) T) : (l1 ++ l2).Pairwise (fun p q => p.1 ≠ q.1) := by
  have := List.pairwise_append.1 h.dist
  exact List.pairwise_append.2 ⟨this.1, (List.pairwise_cons.1 this.2.1).2, fun a ha b hb => this.2.2 a ha b (by simp [hb])⟩
/-- Set anew. -/
theorem Mod.again (h : Mod (l1 ++ (i, t) :: l2) T) (hT : T.length = 64) (u : Int) : Mod (l1 ++ (i, u) :: l2) (T.set i.toNat (u, true)) := by
  obtain ⟨h0, h1, h2⟩ := h.inn (i, t) (by simp)
  simp only at h0 h1
  have hr := h.other
  refine ⟨?_, fun p hp => ?_, fun j hj hs => ?_⟩
  · have := List.pairwise_append.1 h.dist
    exact List.pairwise_append.2 ⟨this.1, List.pairwise_cons.2 ⟨fun q hq => (List.pairwise_cons.1 this.2.1).1 q hq, (List.pairwise_cons.1 this.2.1).2⟩, fun a ha b hb => by
      rcases List.mem_cons.1 hb with rfl | hb
      · exact this.2.2 a ha (i, t) (by simp)
      · exact this.2.2 a ha b (by simp [hb])⟩
  · rw [tm_set _ _ _ _ (by omega)]
    by_cases e : p = (i, u)
    · subst e; exact ⟨h0, h1, by simp⟩
    · have hp2 : p ∈ l1 ++ l2 := by
        rcases List.mem_append.1 hp with hp | hp
        · simp [hp]
        · rcases List.mem_cons.1 hp with hp | hp
          · exact absurd hp e
          · simp [hp]
      obtain ⟨g0, g1, g2⟩ := h.inn p (by rcases List.mem_append.1 hp2 with hp2 | hp2 <;> simp [hp2])
      refine ⟨g0, g1, ?_⟩
      rw [if_neg (by have := hr p hp2; simp only at this; omega)]; exact g2
  · rw [tm_set _ _ _ _ (by omega)] at hs
    by_cases e : i.toNat = j
    · exact ⟨(i, u), by simp, by simp only; omega⟩
    · rw [if_neg e] at hs
      obtain ⟨p, hp, hpe⟩ := h.all j hj hs
      refine ⟨p, ?_, hpe⟩
      rcases List.mem_append.1 hp with hp | hp
      · simp [hp]
      · rcases List.mem_cons.1 hp with rfl | hp
        · simp only at hpe; omega
        · simp [hp]
/-- Set for the first time. -/
theorem Mod.more (h : Mod l T) (hT : T.length = 64) (hi : 0 ≤ i) (hi2 : i < 64) (hn : ∀ p ∈ l, p.1 ≠ i) (u : Int) : Mod (l ++ [(i, u)]) (T.set i.toNat (u, true)) := by
  refine ⟨List.pairwise_append.2 ⟨h.dist, by simp, fun a ha b hb => by simp at hb; subst hb; exact hn a ha⟩, fun p hp => ?_, fun j hj hs => ?_⟩
  · rw [tm_set _ _ _ _ (by omega)]
    rcases List.mem_append.1 hp with hp | hp
    · obtain ⟨g0, g1, g2⟩ := h.inn p hp
      have := hn p hp
      exact ⟨g0, g1, by rw [if_neg (by omega)]; exact g2⟩
    · simp at hp; subst hp; exact ⟨hi, hi2, by simp⟩
  · rw [tm_set _ _ _ _ (by omega)] at hs
    by_cases e : i.toNat = j
    · exact ⟨(i, u), by simp, by simp only; omega⟩
    · rw [if_neg e] at hs
      obtain ⟨p, hp, hpe⟩ := h.all j hj hs
      exact ⟨p, by simp [hp], hpe⟩
/-- Stopped. -/
theorem Mod.less (h : Mod (l1 ++ (i, t) :: l2) T) : Mod (l1 ++ l2) (T.set i.toNat (0, false)) := by
  obtain ⟨h0, h1, h2⟩ := h.inn (i, t) (by simp)
  simp only at h0 h1
  have hr := h.other
  refine ⟨h.rest, fun p hp => ?_, fun j hj hs => ?_⟩
  · obtain ⟨g0, g1, g2⟩ := h.inn p (by rcases List.mem_append.1 hp with hp | hp <;> simp [hp])
    have := hr p hp
    simp only at this
    rw [tm_set0, if_neg (by omega)]
    exact ⟨g0, g1, g2⟩
  · rw [tm_set0] at hs
    by_cases e : i.toNat = j
    · rw [if_pos e] at hs; cases hs
    · rw [if_neg e] at hs
      obtain ⟨p, hp, hpe⟩ := h.all j hj hs
      refine ⟨p, ?_, hpe⟩
      rcases List.mem_append.1 hp with hp | hp
      · simp [hp]
      · rcases List.mem_cons.1 hp with rfl | hp
        · simp only at hpe; omega
        · simp [hp]
theorem stop_in (h : Mod (l1 ++ (i, t) :: l2) T) : stopT T i = T.set i.toNat (0, false) := by
  unfold stopT
  rw [told_in h (p := (i, t)) (by simp)]; rfl

/-- By time, then by number. -/
def lp (p q : Int × Int) : Prop := p.2 < q.2 ∨ (p.2 = q.2 ∧ p.1 < q.1)
/-- What goes off of a list, and what stays. -/
def offs (to_ : Int) (l : List (Int × Int)) : List (Int × Int) := l.filter fun p => decide (p.2 ≤ to_)
def stay (to_ : Int) (l : List (Int × Int)) : List (Int × Int) := l.filter fun p => decide (to_ < p.2)
theorem mem_off {p : Int × Int} {to_ : Int} : p ∈ offs to_ l ↔ p ∈ l ∧ p.2 ≤ to_ := by simp [offs]
theorem mem_stay {p : Int × Int} {to_ : Int} : p ∈ stay to_ l ↔ p ∈ l ∧ to_ < p.2 := by simp [stay]

/-- Rows that are strictly sorted and hold the same are one. -/
theorem same_sorted {k : Int → Int} : ∀ {L M : List Int}, (∀ x, x ∈ L ↔ x ∈ M) → L.Pairwise (PSort.lt k) → M.Pairwise (PSort.lt k) → L = M
  | [], [], _, _, _ => rfl
  | [], y :: M, h, _, _ => by have := (h y).2 (by simp); simp at this
  | x :: L, [], h, _, _ => by have := (h x).1 (by simp); simp at this
  | x :: L, y :: M, h, hL, hM => by
    have hL' := List.pairwise_cons.1 hL
    have hM' := List.pairwise_cons.1 hM
    have e : x = y := by
      rcases List.mem_cons.1 ((h x).1 (by simp)) with e | h1
      · exact e
      · rcases List.mem_cons.1 ((h y).2 (by simp)) with e | h2
        · exact e.symm
        · exact absurd (hL'.1 y h2) (PSort.lt_asymm (hM'.1 x h1))
    subst e
    rw [same_sorted (fun z => ?_) hL'.2 hM'.2]
    have irr : ∀ z, PSort.lt k x z → z ≠ x := fun z hz e => by subst e; exact PSort.lt_asymm hz hz
    constructor
    · intro hz
      rcases List.mem_cons.1 ((h z).1 (by simp [hz])) with e | h1
      · exact absurd e (irr z (hL'.1 z hz))
      · exact h1
    · intro hz
      rcases List.mem_cons.1 ((h z).2 (by simp [hz])) with e | h1
      · exact absurd e (irr z (hM'.1 z hz))
      · exact h1

/-- Who goes off, by the list, is who goes off by the wheel. -/
theorem Mod.went {F : List (Int × Int)} {M : List Int} {now to_ : Int} (h : Mod l T) (hF : F.Perm (offs to_ l)) (hs : F.Pairwise lp) (hg : goes now to_ = true) (hp : M.Perm (goD T now to_)) (hM : M.Pairwise (PSort.lt (key T))) : M = F.map (·.1) := by
  have hmem : ∀ p ∈ F, p ∈ l ∧ p.2 ≤ to_ := fun p hp => mem_off.1 (hF.mem_iff.1 hp)
  have hk : ∀ p ∈ F, key T p.1 = p.2 := fun p hp => by unfold key; rw [(h.inn p (hmem p hp).1).2.2]
  refine same_sorted (fun x => ?_) hM (List.pairwise_map.2 (hs.imp_of_mem fun {p q} hp hq hpq => ?_))
  · rw [hp.mem_iff]
    unfold goD
    rw [if_pos hg, mem_due, List.mem_map]
    constructor
    · rintro ⟨h0, h1, h2⟩
      unfold off at h2
      simp only [Bool.and_eq_true, decide_eq_true_eq] at h2
      obtain ⟨p, hpl, hpe⟩ := h.all x.toNat (by omega) h2.1
      have e : p.1 = x := by omega
      refine ⟨p, hF.mem_iff.2 (mem_off.2 ⟨hpl, ?_⟩), e⟩
      have := (h.inn p hpl).2.2
      rw [e] at this
      rw [this] at h2; exact h2.2
    · rintro ⟨p, hpF, rfl⟩
      obtain ⟨g0, g1, g2⟩ := h.inn p (hmem p hpF).1
      refine ⟨g0, g1, ?_⟩
      unfold off
      rw [g2]; simpa using (hmem p hpF).2
  · unfold PSort.lt
    rw [hk p hp, hk q hq]; exact hpq
theorem Mod.gone {F : List (Int × Int)} {to_ : Int} (h : Mod l T) (hF : F.Perm (offs to_ l)) : Mod (stay to_ l) (clr T (F.map (·.1))) := by
  have hmem : ∀ p ∈ F, p ∈ l ∧ p.2 ≤ to_ := fun p hp => mem_off.1 (hF.mem_iff.1 hp)
  have h0 : ∀ x ∈ F.map (·.1), 0 ≤ x := fun x hx => by
    obtain ⟨p, hp, rfl⟩ := List.mem_map.1 hx
    exact (h.inn p (hmem p hp).1).1
  have uniq : ∀ p ∈ l, ∀ q ∈ l, p.1 = q.1 → p.2 = q.2 := fun p hp q hq e => by
    have h1 := (h.inn p hp).2.2
    have h2 := (h.inn q hq).2.2
    rw [e] at h1
    have := h1.symm.trans h2
    simpa using this
  refine ⟨h.dist.filter _, fun p hp => ?_, fun j hj hs => ?_⟩
  · obtain ⟨hpl, hpt⟩ := mem_stay.1 hp
    obtain ⟨g0, g1, g2⟩ := h.inn p hpl
    refine ⟨g0, g1, ?_⟩
    rw [tm_clr _ _ _ h0, if_neg, g2]
    intro hm
    obtain ⟨q, hq, e⟩ := List.mem_map.1 hm
    have hq' := hmem q hq
    have := uniq p hpl q hq'.1 (by omega)
    omega
  · rw [tm_clr _ _ _ h0] at hs
    split at hs
    · cases hs
    · next hm =>
      obtain ⟨p, hpl, hpe⟩ := h.all j hj hs
      refine ⟨p, mem_stay.2 ⟨hpl, ?_⟩, hpe⟩
      by_cases hlt : to_ < p.2
      · exact hlt
      · exact absurd (List.mem_map.2 ⟨p, hF.mem_iff.2 (mem_off.2 ⟨hpl, by omega⟩), hpe⟩) hm

/-- As many as are set. -/
theorem cnt_filter (h : Mod l T) : ∀ k, k ≤ 64 → cnt T k = (l.filter fun p => decide (p.1 < (k : Int))).length
  | 0, _ => by
    have : l.filter (fun p => decide (p.1 < ((0 : Nat) : Int))) = [] := by
      rw [List.filter_eq_nil_iff]
      intro p hp
      have := (h.inn p hp).1
      simp; omega
    rw [this]; rfl
  | k + 1, hk => by
    unfold cnt
    rw [cnt_filter h k (by omega)]
    have split2 : ∀ l' : List (Int × Int), (l'.filter fun p => decide (p.1 < ((k + 1 : Nat) : Int))).length = (l'.filter fun p => decide (p.1 < (k : Int))).length + (l'.filter fun p => decide (p.1 = (k : Int))).length := by
      intro l'
      induction l' with
      | nil => rfl
      | cons p l' ih =>
        simp only [List.filter_cons]
        by_cases h1 : p.1 < (k : Int)
        · rw [if_pos (by simp; omega), if_pos (by simpa using h1), if_neg (by simp; omega)]
          simp only [List.length_cons]; omega
        · by_cases h2 : p.1 = (k : Int)
          · rw [if_pos (by simp; omega), if_neg (by simpa using h1), if_pos (by simpa using h2)]
            simp only [List.length_cons]; omega
          · rw [if_neg (by simp; omega), if_neg (by simpa using h1), if_neg (by simpa using h2)]
            exact ih
    rw [split2]
    congr 1
    have one : ∀ l' : List (Int × Int), l'.Pairwise (fun p q => p.1 ≠ q.1) → (l'.filter fun p => decide (p.1 = (k : Int))).length ≤ 1 := by
      intro l' hd
      induction l' with
      | nil => simp
      | cons p l' ih =>
        have hc := List.pairwise_cons.1 hd
        simp only [List.filter_cons]
        split
        · next h2 =>
          have h2 := of_decide_eq_true h2
          have : l'.filter (fun p => decide (p.1 = (k : Int))) = [] := by
            rw [List.filter_eq_nil_iff]
            intro q hq
            have := hc.1 q hq
            simp; omega
          rw [this]; simp
        · exact ih hc.2
    have h1 := one l h.dist
    cases hs : (tm T k).2
    · have : l.filter (fun p => decide (p.1 = (k : Int))) = [] := by
        rw [List.filter_eq_nil_iff]
        intro p hp
        have := (h.inn p hp).2.2
        intro e
        have e := of_decide_eq_true e
        rw [e, Int.toNat_natCast] at this
        rw [this] at hs; cases hs
      rw [this]; rfl
    · obtain ⟨p, hp, e⟩ := h.all k (by omega) hs
      have hm : p ∈ l.filter (fun p => decide (p.1 = (k : Int))) := by simp [hp, e]
      have := List.length_pos_of_mem hm
      simp only [if_true]; omega
theorem Mod.cnt (h : Mod l T) : PWheel.cnt T 64 = l.length := by
  rw [cnt_filter h 64 (Nat.le_refl _)]
  congr 1
  rw [List.filter_eq_self]
  intro p hp
  have := (h.inn p hp).2.1
  simpa using this
/-- The earliest, and whether there is one. -/
theorem Mod.next (h : Mod l T) : ((PWheel.next T 64).2 = decide (0 < l.length)) ∧ (∀ p ∈ l, (PWheel.next T 64).1 ≤ p.2) ∧ (0 < l.length → ∃ p ∈ l, p.2 = (PWheel.next T 64).1) := by
  by_cases hl : 0 < l.length
  · obtain ⟨p, hp⟩ : ∃ p, p ∈ l := ⟨l[0], List.getElem_mem _⟩
    have hn : ∀ q ∈ l, (PWheel.next T 64).2 = true ∧ (PWheel.next T 64).1 ≤ q.2 := fun q hq => by
      obtain ⟨g0, g1, g2⟩ := h.inn q hq
      have := next_le (T := T) (k := 64) (j := q.1.toNat) (by omega) (by rw [g2])
      rw [g2] at this; exact this
    have h2 := (hn p hp).1
    refine ⟨by rw [h2]; simp [hl], fun q hq => (hn q hq).2, fun _ => ?_⟩
    obtain ⟨j, hj, e⟩ := next_in h2
    obtain ⟨q, hq, hqe⟩ := h.all j hj (by rw [e]; exact h2)
    refine ⟨q, hq, ?_⟩
    have := (h.inn q hq).2.2
    rw [hqe, Int.toNat_natCast] at this
    rw [← e, this]
  · have h0 : l = [] := List.eq_nil_of_length_eq_zero (by omega)
    subst h0
    rw [next_out fun j hj => by
      cases hs : (tm T j).2
      · rfl
      · obtain ⟨p, hp, _⟩ := h.all j hj hs; simp at hp]
    exact ⟨rfl, by simp, by simp⟩
end
end Go.Proofs.Ytnpdhddnlcpaiaa.PMod
