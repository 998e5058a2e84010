/- Sorting, plainly: a key, then the number; what a search, a merge, a chunk say. No program is named here. -/
namespace Go.Proofs.Ytnpdhddnlcpaiaa.PSort

/-- By its key, then by its number. -/
def lt (k : Int → Int) (x y : Int) : Prop := k x < k y ∨ (k x = k y ∧ x < y)
def cmp3 (a b : Int) : Int := if a < b then -1 else if b < a then 1 else 0
theorem cmp3_neg (a b : Int) : cmp3 a b < 0 ↔ a < b := by unfold cmp3; split <;> (try split) <;> omega
theorem cmp3_lo {a b : Int} (h : a < b) : cmp3 a b = -1 := by unfold cmp3; rw [if_pos h]
theorem lt_trans {k : Int → Int} {x y z : Int} (h : lt k x y) (h' : lt k y z) : lt k x z := by unfold lt at *; omega
theorem lt_asymm {k : Int → Int} {x y : Int} (h : lt k x y) : ¬ lt k y x := by unfold lt at *; omega
theorem lt_pos {k : Int → Int} {x y : Int} (h : k x < k y) : lt k x y := .inl h
theorem lt_neg {k : Int → Int} {x y : Int} (hxy : y < x) (h : ¬ k x < k y) : lt k y x := by unfold lt; omega

section
variable {k : Int → Int} {A B L M S S1 S2 : List Int} {x y : Int}

theorem at_lt (h : L.Pairwise (lt k)) {i j : Nat} (hij : i < j) (hj : j < L.length) : lt k (L.getD i 0) (L.getD j 0) := by
  have := List.pairwise_iff_getElem.1 h i j (by omega) hj hij
  simpa [List.getD, List.getElem?_eq_getElem hj, List.getElem?_eq_getElem (show i < L.length by omega)] using this
theorem getD_mem {i : Nat} (h : i < L.length) : L.getD i 0 ∈ L := by
  simp [List.getD, List.getElem?_eq_getElem h]
theorem mem_at (h : x ∈ L) : ∃ i, i < L.length ∧ L.getD i 0 = x := by
  obtain ⟨i, hi, rfl⟩ := List.getElem_of_mem h
  exact ⟨i, hi, by simp [List.getD, List.getElem?_eq_getElem hi]⟩
theorem mem_take_at {n : Nat} (h : x ∈ L.take n) : ∃ i, i < n ∧ i < L.length ∧ L.getD i 0 = x := by
  obtain ⟨i, hi, e⟩ := mem_at h
  rw [List.length_take] at hi
  refine ⟨i, by omega, by omega, ?_⟩
  rw [← e]; simp [List.getD, List.getElem?_take]; rw [if_pos (by omega)]
theorem mem_drop_at {n : Nat} (h : x ∈ L.drop n) : ∃ i, n ≤ i ∧ i < L.length ∧ L.getD i 0 = x := by
  obtain ⟨i, hi, e⟩ := mem_at h
  rw [List.length_drop] at hi
  refine ⟨n + i, by omega, by omega, ?_⟩
  rw [← e]; simp [List.getD, List.getElem?_drop]

/-- The insertion of x into a row that is sorted: behind S1, ahead of S2. -/
theorem ins_sorted (h : (S1 ++ S2).Pairwise (lt k)) (h2 : ∀ y ∈ S2, lt k x y) (h1 : ∀ y ∈ S1, lt k y x) : (S1 ++ x :: S2).Pairwise (lt k) := by
  rw [List.pairwise_append] at h ⊢
  refine ⟨h.1, List.pairwise_cons.2 ⟨h2, h.2.1⟩, fun a ha b hb => ?_⟩
  rcases List.mem_cons.1 hb with rfl | hb
  · exact h1 a ha
  · exact h.2.2 a ha b hb
theorem last_all (h : (S ++ [y]).Pairwise (lt k)) (hx : lt k y x) : ∀ z ∈ S ++ [y], lt k z x := by
  intro z hz
  rcases List.mem_append.1 hz with hz | hz
  · exact lt_trans ((List.pairwise_append.1 h).2.2 z hz y (by simp)) hx
  · simp at hz; subst hz; exact hx

/-- A search for x's place in B: below lo all are less, from hi on all are more. -/
def Cut (k : Int → Int) (x : Int) (B : List Int) (lo hi : Nat) : Prop :=
  lo ≤ hi ∧ hi ≤ B.length ∧ (∀ t, t < lo → lt k (B.getD t 0) x) ∧ (∀ t, hi ≤ t → t < B.length → lt k x (B.getD t 0))
theorem Cut.start (k : Int → Int) (x : Int) (B : List Int) : Cut k x B 0 B.length := ⟨by omega, Nat.le_refl _, fun t h => by omega, fun t h h' => by omega⟩
theorem Cut.up {lo hi h : Nat} (c : Cut k x B lo hi) (hB : B.Pairwise (lt k)) (h2 : h < hi) (hl : lt k (B.getD h 0) x) : Cut k x B (h + 1) hi := by
  obtain ⟨c1, c2, c3, c4⟩ := c
  refine ⟨by omega, c2, fun t ht => ?_, c4⟩
  by_cases e : t = h
  · subst e; exact hl
  · exact lt_trans (at_lt hB (by omega : t < h) (by omega)) hl
theorem Cut.down {lo hi h : Nat} (c : Cut k x B lo hi) (hB : B.Pairwise (lt k)) (h1 : lo ≤ h) (h2 : h < hi) (hl : lt k x (B.getD h 0)) : Cut k x B lo h := by
  obtain ⟨c1, c2, c3, c4⟩ := c
  refine ⟨h1, by omega, c3, fun t ht ht' => ?_⟩
  by_cases e : t = h
  · subst e; exact hl
  · exact lt_trans hl (at_lt hB (by omega : h < t) (by omega))
theorem Cut.done {s : Nat} (c : Cut k x B s s) (hB : B.Pairwise (lt k)) : (B.take s ++ x :: B.drop s).Pairwise (lt k) := by
  obtain ⟨c1, c2, c3, c4⟩ := c
  refine ins_sorted (by rw [List.take_append_drop]; exact hB) (fun y hy => ?_) (fun y hy => ?_)
  · obtain ⟨i, h1, h2, rfl⟩ := mem_drop_at hy; exact c4 i h1 h2
  · obtain ⟨i, h1, h2, rfl⟩ := mem_take_at hy; exact c3 i h1

/-- The search for where A and B are cut, so that what stands ahead is h in all. -/
def Cross (k : Int → Int) (A B : List Int) (h lo hi : Nat) : Prop :=
  lo ≤ hi ∧ hi ≤ A.length ∧ hi ≤ h ∧ h ≤ lo + B.length ∧
  (∀ c, h ≤ c + B.length → c < lo → lt k (A.getD c 0) (B.getD (h - 1 - c) 0)) ∧ (∀ c, hi ≤ c → c < A.length → c < h → lt k (B.getD (h - 1 - c) 0) (A.getD c 0))
theorem Cross.start {h lo hi : Nat} (hlo : lo = h - B.length) (hhi : hi = min A.length h) (hl : h ≤ A.length + B.length) : Cross k A B h lo hi := by
  subst hlo hhi
  exact ⟨by omega, by omega, by omega, by omega, fun c h1 h2 => by omega, fun c h1 h2 h3 => by omega⟩
theorem Cross.up {h lo hi c : Nat} (s : Cross k A B h lo hi) (hA : A.Pairwise (lt k)) (hB : B.Pairwise (lt k)) (h1 : lo ≤ c) (h2 : c < hi) (hl : lt k (A.getD c 0) (B.getD (h - 1 - c) 0)) : Cross k A B h (c + 1) hi := by
  obtain ⟨c1, c2, c3, c4, c5, c6⟩ := s
  refine ⟨by omega, c2, c3, by omega, fun d hd1 hd2 => ?_, c6⟩
  by_cases e : d = c
  · subst e; exact hl
  · exact lt_trans (lt_trans (at_lt hA (by omega : d < c) (by omega)) hl) (at_lt hB (by omega : h - 1 - c < h - 1 - d) (by omega))
theorem Cross.down {h lo hi c : Nat} (s : Cross k A B h lo hi) (hA : A.Pairwise (lt k)) (hB : B.Pairwise (lt k)) (h1 : lo ≤ c) (h2 : c < hi) (hl : lt k (B.getD (h - 1 - c) 0) (A.getD c 0)) : Cross k A B h lo c := by
  obtain ⟨c1, c2, c3, c4, c5, c6⟩ := s
  refine ⟨h1, by omega, by omega, c4, c5, fun d hd1 hd2 hd3 => ?_⟩
  by_cases e : d = c
  · subst e; exact hl
  · exact lt_trans (at_lt hB (by omega : h - 1 - d < h - 1 - c) (by omega)) (lt_trans hl (at_lt hA (by omega : c < d) hd2))
theorem Cross.done {h s : Nat} (c : Cross k A B h s s) (hA : A.Pairwise (lt k)) (hB : B.Pairwise (lt k)) :
    ∀ x ∈ A.take s ++ B.take (h - s), ∀ y ∈ A.drop s ++ B.drop (h - s), lt k x y := by
  obtain ⟨c1, c2, c3, c4, c5, c6⟩ := c
  intro x hx y hy
  rcases List.mem_append.1 hx with hx | hx <;> rcases List.mem_append.1 hy with hy | hy
  · obtain ⟨i, i1, i2, rfl⟩ := mem_take_at hx
    obtain ⟨j, j1, j2, rfl⟩ := mem_drop_at hy
    exact at_lt hA (by omega) j2
  · obtain ⟨i, i1, i2, rfl⟩ := mem_take_at hx
    obtain ⟨j, j1, j2, rfl⟩ := mem_drop_at hy
    have h0 := c5 (s - 1) (by omega) (by omega)
    have e : h - 1 - (s - 1) = h - s := by omega
    rw [e] at h0
    have h1 : lt k (A.getD i 0) (B.getD (h - s) 0) := by
      by_cases e : i = s - 1
      · subst e; exact h0
      · exact lt_trans (at_lt hA (by omega : i < s - 1) (by omega)) h0
    by_cases e : j = h - s
    · subst e; exact h1
    · exact lt_trans h1 (at_lt hB (by omega : h - s < j) j2)
  · obtain ⟨i, i1, i2, rfl⟩ := mem_take_at hx
    obtain ⟨j, j1, j2, rfl⟩ := mem_drop_at hy
    have h0 := c6 s (Nat.le_refl _) (by omega) (by omega)
    have h1 : lt k (B.getD i 0) (A.getD s 0) := by
      by_cases e : i = h - 1 - s
      · subst e; exact h0
      · exact lt_trans (at_lt hB (by omega : i < h - 1 - s) (by omega)) h0
    by_cases e : j = s
    · subst e; exact h1
    · exact lt_trans h1 (at_lt hA (by omega : s < j) j2)
  · obtain ⟨i, i1, i2, rfl⟩ := mem_take_at hx
    obtain ⟨j, j1, j2, rfl⟩ := mem_drop_at hy
    exact at_lt hB (by omega) j2

/-- Two parts, each sorted, each of the first less than each of the second. -/
theorem both_sorted {M1 M2 L1 L2 : List Int} (p1 : M1.Perm L1) (p2 : M2.Perm L2) (s1 : M1.Pairwise (lt k)) (s2 : M2.Pairwise (lt k)) (h : ∀ x ∈ L1, ∀ y ∈ L2, lt k x y) : (M1 ++ M2).Pairwise (lt k) :=
  List.pairwise_append.2 ⟨s1, s2, fun x hx y hy => h x (p1.mem_iff.1 hx) y (p2.mem_iff.1 hy)⟩
theorem four_perm (A1 A2 B1 B2 M1 M2 : List Int) (p1 : M1.Perm (A1 ++ B1)) (p2 : M2.Perm (A2 ++ B2)) : (M1 ++ M2).Perm ((A1 ++ A2) ++ (B1 ++ B2)) := by
  refine (p1.append p2).trans ?_
  rw [List.append_assoc, List.append_assoc]
  refine List.Perm.append_left _ ?_
  rw [← List.append_assoc, ← List.append_assoc]
  exact List.Perm.append_right _ List.perm_append_comm

/-- Of what is strictly sorted there is one row. -/
theorem sorted_one : ∀ {L M : List Int}, L.Perm M → L.Pairwise (lt k) → M.Pairwise (lt k) → L = M
  | [], M, p, _, _ => (List.nil_perm.1 p).symm
  | x :: L, [], p, _, _ => by simp at p
  | x :: L, y :: M, p, hL, hM => by
    have e : x = y := by
      have h1 : x ∈ y :: M := p.mem_iff.1 (by simp)
      have h2 : y ∈ x :: L := p.mem_iff.2 (by simp)
      rcases List.mem_cons.1 h1 with e | h1
      · exact e
      · rcases List.mem_cons.1 h2 with e | h2
        · exact e.symm
        · exact absurd ((List.pairwise_cons.1 hL).1 y h2) (lt_asymm ((List.pairwise_cons.1 hM).1 x h1))
    subst e
    rw [sorted_one (p.cons_inv) (List.pairwise_cons.1 hL).2 (List.pairwise_cons.1 hM).2]

/-- Rows of bs each, sorted; the last one shorter; the numbers rise from row to row. -/
def Chunks (k : Int → Int) (bs : Nat) (D : List (List Int)) (T : List Int) : Prop :=
  (∀ c ∈ D, c.length = bs ∧ c.Pairwise (lt k)) ∧ (∀ x ∈ D.flatten, ∀ y ∈ T, x < y) ∧ D.Pairwise (fun c d => ∀ x ∈ c, ∀ y ∈ d, x < y)
theorem flat_len {bs : Nat} : ∀ {D : List (List Int)}, (∀ c ∈ D, c.length = bs) → D.flatten.length = D.length * bs
  | [], _ => by simp
  | c :: D, h => by
    rw [List.flatten_cons, List.length_append, flat_len (fun d hd => h d (List.mem_cons_of_mem _ hd)), h c (by simp), List.length_cons, Nat.add_mul]; omega
theorem Chunks.len {bs : Nat} {D : List (List Int)} {T : List Int} (h : Chunks k bs D T) : D.flatten.length = D.length * bs := flat_len fun c hc => (h.1 c hc).1
theorem Chunks.nil (bs : Nat) (T : List Int) : Chunks k bs [] T := ⟨by simp, by simp, List.Pairwise.nil⟩
theorem Chunks.tail {bs : Nat} {D : List (List Int)} {T T' : List Int} (h : Chunks k bs D T) (hp : ∀ y ∈ T', y ∈ T) : Chunks k bs D T' := ⟨h.1, fun x hx y hy => h.2.1 x hx y (hp y hy), h.2.2⟩
/-- One row more. -/
theorem Chunks.snoc {bs : Nat} {D : List (List Int)} {T T' c : List Int} (h : Chunks k bs D T) (hc : c.length = bs) (hs : c.Pairwise (lt k)) (hcT : ∀ x ∈ c, x ∈ T) (hT' : ∀ y ∈ T', y ∈ T) (hr : ∀ x ∈ c, ∀ y ∈ T', x < y) : Chunks k bs (D ++ [c]) T' := by
  refine ⟨fun d hd => ?_, fun x hx y hy => ?_, List.pairwise_append.2 ⟨h.2.2, by simp, fun d hd e he => ?_⟩⟩
  · rcases List.mem_append.1 hd with hd | hd
    · exact h.1 d hd
    · simp at hd; subst hd; exact ⟨hc, hs⟩
  · rw [List.flatten_append, List.mem_append] at hx
    rcases hx with hx | hx
    · exact h.2.1 x hx y (hT' y hy)
    · exact hr x (by simpa using hx) y hy
  · simp at he; subst he
    exact fun x hx y hy => h.2.1 x (List.mem_flatten.2 ⟨d, hd, hx⟩) y (hcT y hy)
end
end Go.Proofs.Ytnpdhddnlcpaiaa.PSort
