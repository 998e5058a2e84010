/- Ranges as plain lists: how many have a time; where the most agree; where so many do. No program is named here. -/
import Derived.Test.YtapfdceopbkcgaaPlainDrift
namespace Go.Proofs.Ytapfdceopbkcgaa.PCross
open PDrift (pr)

abbrev Pr := Int × Int
def Has (p : Pr) (t : Int) : Prop := p.1 ≤ t ∧ t ≤ p.2
instance (p : Pr) (t : Int) : Decidable (Has p t) := by unfold Has; infer_instance
/-- How many have the time. -/
def cnt (L : List Pr) (t : Int) : Nat := L.countP fun p => decide (Has p t)

theorem cnt_app (L M : List Pr) (t : Int) : cnt (L ++ M) t = cnt L t + cnt M t := List.countP_append
theorem cnt_one (p : Pr) (t : Int) : cnt [p] t = if Has p t then 1 else 0 := by
  unfold cnt; by_cases h : Has p t <;> simp [h]
theorem cnt_rev (L : List Pr) (t : Int) : cnt L.reverse t = cnt L t := List.countP_reverse
theorem cnt_le (L : List Pr) (t : Int) : cnt L t ≤ L.length := List.countP_le_length
theorem cnt_mono {L : List Pr} {s t : Int} (h : ∀ p, p ∈ L → Has p s → Has p t) : cnt L s ≤ cnt L t :=
  List.countP_mono_left fun p hp => by simpa using h p hp
theorem cnt_pos {L : List Pr} {t : Int} (h : 0 < cnt L t) : ∃ p, p ∈ L ∧ Has p t := by
  obtain ⟨p, hp, hh⟩ := List.countP_pos_iff.1 h
  exact ⟨p, hp, by simpa using hh⟩
theorem pos_cnt {L : List Pr} {t : Int} {p : Pr} (hp : p ∈ L) (h : Has p t) : 0 < cnt L t :=
  List.countP_pos_iff.2 ⟨p, hp, by simpa using h⟩
theorem cnt_zero {L : List Pr} {t : Int} (h : ∀ p, p ∈ L → ¬ Has p t) : cnt L t = 0 := by
  rcases Nat.eq_zero_or_pos (cnt L t) with e | e
  · exact e
  · obtain ⟨p, hp, hh⟩ := cnt_pos e
    exact absurd hh (h p hp)
theorem pr_in {L : List Pr} {i : Nat} (h : i < L.length) : pr L i ∈ L := by
  simp [pr, List.getD, List.getElem?_eq_getElem h]
theorem in_pr {L : List Pr} {p : Pr} (h : p ∈ L) : ∃ i, i < L.length ∧ pr L i = p := by
  obtain ⟨i, hi, e⟩ := List.mem_iff_getElem.1 h
  exact ⟨i, hi, by simp [pr, List.getD, List.getElem?_eq_getElem hi, e]⟩
theorem take_succ (L : List Pr) {i : Nat} (h : i < L.length) : L.take (i + 1) = L.take i ++ [pr L i] := by
  have e1 : pr L i = L[i] := by simp [pr, List.getD, List.getElem?_eq_getElem h]
  rw [List.take_add, List.drop_eq_getElem_cons h, e1]; rfl
theorem cnt_step (L : List Pr) {i : Nat} (h : i < L.length) (t : Int) : cnt (L.take (i + 1)) t = cnt (L.take i) t + if Has (pr L i) t then 1 else 0 := by
  rw [take_succ L h, cnt_app, cnt_one]

theorem cnt_in (L : List Pr) {i : Nat} (h : i < L.length) {x y : Int} (hp : pr L i = (x, y)) {t : Int} (h1 : x ≤ t) (h2 : t ≤ y) : cnt (L.take (i + 1)) t = cnt (L.take i) t + 1 := by
  rw [cnt_step L h, hp, if_pos ⟨h1, h2⟩]
theorem cnt_out (L : List Pr) {i : Nat} (h : i < L.length) {x y : Int} (hp : pr L i = (x, y)) {t : Int} (hn : ¬ (x ≤ t ∧ t ≤ y)) : cnt (L.take (i + 1)) t = cnt (L.take i) t := by
  rw [cnt_step L h, hp, if_neg (show ¬ Has (x, y) t from hn)]; omega

/-- Of those that have t the one with the greatest low. -/
theorem top_low {t : Int} : ∀ {L : List Pr}, (∃ p, p ∈ L ∧ Has p t) → ∃ p, p ∈ L ∧ Has p t ∧ ∀ q, q ∈ L → Has q t → q.1 ≤ p.1
  | [], h => by obtain ⟨_, hp, _⟩ := h; cases hp
  | a :: L, h => by
    by_cases hL : ∃ p, p ∈ L ∧ Has p t
    · obtain ⟨p, hp, h1, h2⟩ := top_low hL
      by_cases ha : Has a t ∧ p.1 < a.1
      · exact ⟨a, List.mem_cons_self .., ha.1, fun q hq hh => by
          rcases List.mem_cons.1 hq with rfl | hq
          · exact Int.le_refl _
          · have := h2 q hq hh; omega⟩
      · exact ⟨p, List.mem_cons_of_mem _ hp, h1, fun q hq hh => by
          rcases List.mem_cons.1 hq with rfl | hq
          · exact Int.not_lt.1 fun hlt => ha ⟨hh, hlt⟩
          · exact h2 q hq hh⟩
    · obtain ⟨p, hp, hh⟩ := h
      rcases List.mem_cons.1 hp with rfl | hp
      · exact ⟨p, List.mem_cons_self .., hh, fun q hq hq' => by
          rcases List.mem_cons.1 hq with rfl | hq
          · exact Int.le_refl _
          · exact absurd ⟨q, hq, hq'⟩ hL⟩
      · exact absurd ⟨p, hp, hh⟩ hL
/-- .. the one with the least high. -/
theorem low_high {t : Int} : ∀ {L : List Pr}, (∃ p, p ∈ L ∧ Has p t) → ∃ p, p ∈ L ∧ Has p t ∧ ∀ q, q ∈ L → Has q t → p.2 ≤ q.2
  | [], h => by obtain ⟨_, hp, _⟩ := h; cases hp
  | a :: L, h => by
    by_cases hL : ∃ p, p ∈ L ∧ Has p t
    · obtain ⟨p, hp, h1, h2⟩ := low_high hL
      by_cases ha : Has a t ∧ a.2 < p.2
      · exact ⟨a, List.mem_cons_self .., ha.1, fun q hq hh => by
          rcases List.mem_cons.1 hq with rfl | hq
          · exact Int.le_refl _
          · have := h2 q hq hh; omega⟩
      · exact ⟨p, List.mem_cons_of_mem _ hp, h1, fun q hq hh => by
          rcases List.mem_cons.1 hq with rfl | hq
          · exact Int.not_lt.1 fun hlt => ha ⟨hh, hlt⟩
          · exact h2 q hq hh⟩
    · obtain ⟨p, hp, hh⟩ := h
      rcases List.mem_cons.1 hp with rfl | hp
      · exact ⟨p, List.mem_cons_self .., hh, fun q hq hq' => by
          rcases List.mem_cons.1 hq with rfl | hq
          · exact Int.le_refl _
          · exact absurd ⟨q, hq, hq'⟩ hL⟩
      · exact absurd ⟨p, hp, hh⟩ hL
/-- A low that has no fewer, not behind. -/
theorem to_low {L : List Pr} {t : Int} (h : 0 < cnt L t) : ∃ p, p ∈ L ∧ p.1 ≤ p.2 ∧ p.1 ≤ t ∧ cnt L t ≤ cnt L p.1 := by
  obtain ⟨p, hp, h1, h2⟩ := top_low (cnt_pos h)
  exact ⟨p, hp, Int.le_trans h1.1 h1.2, h1.1, cnt_mono fun q hq hh => ⟨h2 q hq hh, Int.le_trans h1.1 hh.2⟩⟩
theorem to_high {L : List Pr} {t : Int} (h : 0 < cnt L t) : ∃ p, p ∈ L ∧ p.1 ≤ p.2 ∧ t ≤ p.2 ∧ cnt L t ≤ cnt L p.2 := by
  obtain ⟨p, hp, h1, h2⟩ := low_high (cnt_pos h)
  exact ⟨p, hp, Int.le_trans h1.1 h1.2, h1.2, cnt_mono fun q hq hh => ⟨Int.le_trans hh.1 h1.2, h2 q hq hh⟩⟩

/-- All ends are int64s. -/
def Fits (L : List Pr) : Prop := ∀ p, p ∈ L → -9223372036854775808 ≤ p.1 ∧ p.1 ≤ 9223372036854775807 ∧ -9223372036854775808 ≤ p.2 ∧ p.2 ≤ 9223372036854775807
theorem Fits.app {L M : List Pr} (h : Fits L) (h' : Fits M) : Fits (L ++ M) := fun p hp => (List.mem_append.1 hp).elim (h p) (h' p)
theorem Fits.take {L : List Pr} (h : Fits L) (k : Nat) : Fits (L.take k) := fun p hp => h p (List.mem_of_mem_take hp)
theorem Fits.rev {L : List Pr} (h : Fits L) : Fits L.reverse := fun p hp => h p (List.mem_reverse.1 hp)
theorem Fits.range {L : List Pr} {t : Int} (h : Fits L) (ht : 0 < cnt L t) : -9223372036854775808 ≤ t ∧ t ≤ 9223372036854775807 := by
  obtain ⟨p, hp, h1, h2⟩ := cnt_pos ht
  have := h p hp
  omega

/-- The best low and its count. -/
structure LowBest (L : List Pr) (lo : Int) (n : Nat) : Prop where
  all : ∀ t, cnt L t ≤ n
  none : n = 0 → lo = 0
  some : 0 < n → cnt L lo = n ∧ ∀ t, t < lo → cnt L t < n
/-- The best run. -/
structure IsBest (L : List Pr) (lo hi : Int) (n : Nat) : Prop where
  low : LowBest L lo n
  none : n = 0 → hi = 0
  some : 0 < n → lo ≤ hi ∧ (∀ t, lo ≤ t → t ≤ hi → cnt L t = n) ∧ cnt L (hi + 1) ≠ n
theorem LowBest.uniq {L M : List Pr} (he : ∀ t, cnt L t = cnt M t) {lo lo' : Int} {n n' : Nat} (h : LowBest L lo n) (h' : LowBest M lo' n') : n = n' ∧ lo = lo' := by
  have e : n = n' := by
    apply Nat.le_antisymm
    · rcases Nat.eq_zero_or_pos n with e | e
      · omega
      · have := (h.some e).1; rw [he] at this; have := h'.all lo; omega
    · rcases Nat.eq_zero_or_pos n' with e | e
      · omega
      · have := (h'.some e).1; rw [← he] at this; have := h.all lo'; omega
  subst e
  refine ⟨rfl, ?_⟩
  rcases Nat.eq_zero_or_pos n with e | e
  · rw [h.none e, h'.none e]
  · have a := h.some e
    have b := h'.some e
    rcases Int.lt_trichotomy lo lo' with c | c | c
    · have := b.2 lo c; rw [← he] at this; omega
    · exact c
    · have := a.2 lo' c; rw [he] at this; omega
theorem IsBest.uniq {L M : List Pr} (he : ∀ t, cnt L t = cnt M t) {lo lo' hi hi' : Int} {n n' : Nat} (h : IsBest L lo hi n) (h' : IsBest M lo' hi' n') : n = n' ∧ lo = lo' ∧ hi = hi' := by
  obtain ⟨e1, e2⟩ := LowBest.uniq he h.low h'.low
  subst e1 e2
  refine ⟨rfl, rfl, ?_⟩
  rcases Nat.eq_zero_or_pos n with e | e
  · rw [h.none e, h'.none e]
  · obtain ⟨a1, a2, a3⟩ := h.some e
    obtain ⟨b1, b2, b3⟩ := h'.some e
    rcases Int.lt_trichotomy hi hi' with c | c | c
    · exact absurd (by rw [he]; exact b2 (hi + 1) (by omega) (by omega)) a3
    · exact c
    · exact absurd (by rw [← he]; exact a2 (hi' + 1) (by omega) (by omega)) b3

/-- The least and the greatest time that n have. -/
structure IsMost (L : List Pr) (n : Int) (lo hi : Int) (ok : Bool) : Prop where
  no : ok = false → lo = 0 ∧ hi = 0 ∧ (n < 1 ∨ ∀ t, (cnt L t : Int) < n)
  yes : ok = true → 1 ≤ n ∧ n ≤ cnt L lo ∧ n ≤ cnt L hi ∧ ∀ t, n ≤ cnt L t → lo ≤ t ∧ t ≤ hi
theorem IsMost.uniq {L M : List Pr} (he : ∀ t, cnt L t = cnt M t) {n lo lo' hi hi' : Int} {ok ok' : Bool} (h : IsMost L n lo hi ok) (h' : IsMost M n lo' hi' ok') : ok = ok' ∧ lo = lo' ∧ hi = hi' := by
  cases ok <;> cases ok'
  · obtain ⟨a, b, _⟩ := h.no rfl
    obtain ⟨a', b', _⟩ := h'.no rfl
    exact ⟨rfl, by omega, by omega⟩
  · obtain ⟨_, _, c⟩ := h.no rfl
    obtain ⟨a', b', _⟩ := h'.yes rfl
    rw [← he] at b'
    rcases c with c | c
    · omega
    · have := c lo'; omega
  · obtain ⟨_, _, c⟩ := h'.no rfl
    obtain ⟨a', b', _⟩ := h.yes rfl
    rw [he] at b'
    rcases c with c | c
    · omega
    · have := c lo; omega
  · obtain ⟨_, a1, a2, a3⟩ := h.yes rfl
    obtain ⟨_, b1, b2, b3⟩ := h'.yes rfl
    have x1 := a3 lo' (by rw [he]; exact b1)
    have x2 := a3 hi' (by rw [he]; exact b2)
    have y1 := b3 lo (by rw [← he]; exact a1)
    have y2 := b3 hi (by rw [← he]; exact a2)
    exact ⟨rfl, by omega, by omega⟩

/-- The lows and the highs of those that have times, each rising. -/
structure Ends (L : List Pr) (S T : List Int) : Prop where
  s : S.Pairwise (· ≤ ·)
  t : T.Pairwise (· ≤ ·)
  len : S.length = T.length
  sub : ∀ x, S.countP (fun y => decide (y ≤ x)) = T.countP (fun y => decide (y < x)) + cnt L x
  lo_in : ∀ p, p ∈ L → p.1 ≤ p.2 → p.1 ∈ S
  hi_in : ∀ p, p ∈ L → p.1 ≤ p.2 → p.2 ∈ T
  lo_of : ∀ x, x ∈ S → ∃ p, p ∈ L ∧ p.1 ≤ p.2 ∧ p.1 = x
  hi_of : ∀ x, x ∈ T → ∃ p, p ∈ L ∧ p.1 ≤ p.2 ∧ p.2 = x

def good (L : List Pr) : List Pr := L.filter fun p => decide (p.1 ≤ p.2)
theorem good_app (L M : List Pr) : good (L ++ M) = good L ++ good M := by unfold good; simp
theorem good_step (L : List Pr) {i : Nat} (h : i < L.length) : good (L.take (i + 1)) = good (L.take i) ++ if (pr L i).1 ≤ (pr L i).2 then [pr L i] else [] := by
  rw [take_succ L h, good_app]
  congr 1
  by_cases e : (pr L i).1 ≤ (pr L i).2 <;> simp [good, e]
theorem good_len (L : List Pr) : (good L).length ≤ L.length := List.length_filter_le ..
theorem mem_good {L : List Pr} {p : Pr} : p ∈ good L ↔ p ∈ L ∧ p.1 ≤ p.2 := by simp [good]
theorem sub_good (x : Int) : ∀ L : List Pr, ((good L).map Prod.fst).countP (fun y => decide (y ≤ x)) = ((good L).map Prod.snd).countP (fun y => decide (y < x)) + cnt L x
  | [] => rfl
  | p :: L => by
    have ih := sub_good x L
    have e : cnt (p :: L) x = cnt L x + if Has p x then 1 else 0 := by
      unfold cnt; rw [List.countP_cons]; by_cases h : Has p x <;> simp [h]
    rw [e]
    by_cases hp : p.1 ≤ p.2
    · have g : good (p :: L) = p :: good L := by simp [good, hp]
      rw [g, List.map_cons, List.map_cons, List.countP_cons, List.countP_cons, ih]
      unfold Has
      by_cases h1 : p.1 ≤ x
      · by_cases h2 : p.2 < x
        · have : ¬ x ≤ p.2 := by omega
          simp [h1, h2, this]; omega
        · have : x ≤ p.2 := by omega
          simp [h1, h2, this]; omega
      · have h2 : ¬ p.2 < x := by omega
        simp [h1, h2]
    · have g : good (p :: L) = good L := by simp [good, hp]
      have : ¬ Has p x := by unfold Has; omega
      rw [g, ih, if_neg this]; omega
theorem ends_of {L : List Pr} {S T : List Int} (p1 : S.Perm ((good L).map Prod.fst)) (p2 : T.Perm ((good L).map Prod.snd)) (h1 : S.Pairwise (· ≤ ·)) (h2 : T.Pairwise (· ≤ ·)) : Ends L S T where
  s := h1
  t := h2
  len := by rw [p1.length_eq, p2.length_eq]; simp
  sub x := by rw [p1.countP_eq, p2.countP_eq]; exact sub_good x L
  lo_in p hp hg := p1.mem_iff.2 (List.mem_map.2 ⟨p, mem_good.2 ⟨hp, hg⟩, rfl⟩)
  hi_in p hp hg := p2.mem_iff.2 (List.mem_map.2 ⟨p, mem_good.2 ⟨hp, hg⟩, rfl⟩)
  lo_of x hx := by
    obtain ⟨p, hp, e⟩ := List.mem_map.1 (p1.mem_iff.1 hx)
    exact ⟨p, (mem_good.1 hp).1, (mem_good.1 hp).2, e⟩
  hi_of x hx := by
    obtain ⟨p, hp, e⟩ := List.mem_map.1 (p2.mem_iff.1 hx)
    exact ⟨p, (mem_good.1 hp).1, (mem_good.1 hp).2, e⟩

def at_ (S : List Int) (i : Nat) : Int := S.getD i 0
theorem at_get {S : List Int} {i : Nat} (h : i < S.length) : at_ S i = S[i] := by simp [at_, List.getD, List.getElem?_eq_getElem h]
theorem at_in {S : List Int} {i : Nat} (h : i < S.length) : at_ S i ∈ S := by rw [at_get h]; exact List.getElem_mem h
theorem in_at {S : List Int} {x : Int} (h : x ∈ S) : ∃ i, i < S.length ∧ at_ S i = x := by
  obtain ⟨i, hi, e⟩ := List.mem_iff_getElem.1 h
  exact ⟨i, hi, by rw [at_get hi, e]⟩
theorem at_le {S : List Int} (h : S.Pairwise (· ≤ ·)) {i j : Nat} (hij : i ≤ j) (hj : j < S.length) : at_ S i ≤ at_ S j := by
  rw [at_get hj, at_get (show i < S.length by omega)]
  rcases Nat.lt_or_ge i j with e | e
  · exact List.pairwise_iff_getElem.1 h i j (by omega) hj e
  · obtain rfl : i = j := by omega
    exact Int.le_refl _
/-- A cut of a list: all ahead of it do, none from it on. -/
theorem cut_count {S : List Int} {p : Int → Bool} {i : Nat} (hi : i ≤ S.length) (h1 : ∀ j, j < i → p (at_ S j) = true) (h2 : ∀ j, i ≤ j → j < S.length → p (at_ S j) = false) : S.countP p = i := by
  conv => lhs; rw [← List.take_append_drop i S, List.countP_append]
  have a : (S.take i).countP p = i := by
    have : (S.take i).countP p = (S.take i).length := List.countP_eq_length.2 fun x hx => by
      obtain ⟨j, hj, e⟩ := List.mem_iff_getElem.1 hx
      rw [List.length_take] at hj
      have := h1 j (by omega)
      rw [at_get (by omega)] at this
      rw [List.getElem_take] at e
      rw [← e]; exact this
    rw [this, List.length_take]; omega
  have b : (S.drop i).countP p = 0 := List.countP_eq_zero.2 fun x hx => by
    obtain ⟨j, hj, e⟩ := List.mem_iff_getElem.1 hx
    rw [List.length_drop] at hj
    have := h2 (i + j) (by omega) (by omega)
    rw [at_get (by omega)] at this
    rw [List.getElem_drop] at e
    rw [← e, this]; simp
  omega
/-- .. of a rising list, by its count. -/
theorem count_cut {S : List Int} (h : S.Pairwise (· ≤ ·)) (x : Int) {j : Nat} (hj : j < S.length) :
    (at_ S j < x ↔ j < S.countP (fun y => decide (y < x))) ∧ (at_ S j ≤ x ↔ j < S.countP (fun y => decide (y ≤ x))) := by
  have gen : ∀ p : Int → Bool, (∀ a b, a ≤ b → p b = true → p a = true) → (p (at_ S j) = true ↔ j < S.countP p) := by
    intro p mono
    obtain ⟨i, hi, h1, h2⟩ : ∃ i, i ≤ S.length ∧ (∀ k, k < i → p (at_ S k) = true) ∧ (∀ k, i ≤ k → k < S.length → p (at_ S k) = false) := by
      have : ∀ m, m ≤ S.length → (∀ k, k < m → p (at_ S k) = true) ∨ ∃ i, i ≤ S.length ∧ (∀ k, k < i → p (at_ S k) = true) ∧ (∀ k, i ≤ k → k < S.length → p (at_ S k) = false) := by
        intro m
        induction m with
        | zero => exact fun _ => Or.inl fun k hk => absurd hk (by omega)
        | succ m ih =>
          intro hm
          rcases ih (by omega) with ih | ih
          · cases e : p (at_ S m)
            · exact Or.inr ⟨m, by omega, ih, fun k hk hl => by
                cases e' : p (at_ S k)
                · rfl
                · rw [mono _ _ (at_le h hk hl) e'] at e; cases e⟩
            · exact Or.inl fun k hk => by
                rcases (by omega : k < m ∨ k = m) with h' | rfl
                · exact ih k h'
                · exact e
          · exact Or.inr ih
      rcases this S.length (Nat.le_refl _) with h' | h'
      · exact ⟨S.length, Nat.le_refl _, h', fun k hk hl => absurd hk (by omega)⟩
      · exact h'
    rw [cut_count hi h1 h2]
    constructor
    · intro hp
      rcases Nat.lt_or_ge j i with e | e
      · exact e
      · rw [h2 j e hj] at hp; cases hp
    · exact fun hlt => h1 j hlt
  constructor
  · simpa using gen (fun y => decide (y < x)) (fun a b hab hb => by simp at hb ⊢; omega)
  · simpa using gen (fun y => decide (y ≤ x)) (fun a b hab hb => by simp at hb ⊢; omega)

section
variable {L : List Pr} {S T : List Int}
theorem Ends.lo_pos (h : Ends L S T) {i : Nat} (hi : i < S.length) : 0 < cnt L (at_ S i) := by
  obtain ⟨p, hp, hg, e⟩ := h.lo_of _ (at_in hi)
  exact pos_cnt hp ⟨by omega, by omega⟩
theorem Ends.hi_pos (h : Ends L S T) {i : Nat} (hi : i < T.length) : 0 < cnt L (at_ T i) := by
  obtain ⟨p, hp, hg, e⟩ := h.hi_of _ (at_in hi)
  exact pos_cnt hp ⟨by omega, by omega⟩
theorem Ends.to_low (h : Ends L S T) {t : Int} (ht : 0 < cnt L t) : ∃ i, i < S.length ∧ at_ S i ≤ t ∧ cnt L t ≤ cnt L (at_ S i) := by
  obtain ⟨p, hp, hg, h1, h2⟩ := PCross.to_low ht
  obtain ⟨i, hi, e⟩ := in_at (h.lo_in p hp hg)
  exact ⟨i, hi, by omega, by rw [e]; exact h2⟩
theorem Ends.to_high (h : Ends L S T) {t : Int} (ht : 0 < cnt L t) : ∃ i, i < T.length ∧ t ≤ at_ T i ∧ cnt L t ≤ cnt L (at_ T i) := by
  obtain ⟨p, hp, hg, h1, h2⟩ := PCross.to_high ht
  obtain ⟨i, hi, e⟩ := in_at (h.hi_in p hp hg)
  exact ⟨i, hi, by omega, by rw [e]; exact h2⟩

/-- Best's loop behind j lows. -/
structure BestInv (L : List Pr) (S : List Int) (j : Nat) (lo : Int) (n : Nat) : Prop where
  all : ∀ k, k < j → cnt L (at_ S k) ≤ n
  none : n = 0 → lo = 0 ∧ j = 0
  some : 0 < n → ∃ k, k < j ∧ lo = at_ S k ∧ cnt L lo = n ∧ ∀ m, m < k → cnt L (at_ S m) < n
theorem BestInv.start (L : List Pr) (S : List Int) : BestInv L S 0 0 0 := ⟨fun k hk => absurd hk (by omega), fun _ => ⟨rfl, rfl⟩, fun h => absurd h (by omega)⟩
theorem BestInv.up {j : Nat} {lo : Int} {n : Nat} (h : BestInv L S j lo n) (hn : n < cnt L (at_ S j)) : BestInv L S (j + 1) (at_ S j) (cnt L (at_ S j)) where
  all k hk := by
    rcases (by omega : k < j ∨ k = j) with e | rfl
    · have := h.all k e; omega
    · omega
  none e := by omega
  some _ := ⟨j, by omega, rfl, rfl, fun m hm => by have := h.all m hm; omega⟩
theorem BestInv.stay {j : Nat} {lo : Int} {n : Nat} (he : Ends L S T) (hj : j < S.length) (h : BestInv L S j lo n) (hn : cnt L (at_ S j) ≤ n) : BestInv L S (j + 1) lo n where
  all k hk := by
    rcases (by omega : k < j ∨ k = j) with e | rfl
    · exact h.all k e
    · exact hn
  none e := by have := he.lo_pos hj; omega
  some e := by obtain ⟨k, h1, h2⟩ := h.some e; exact ⟨k, by omega, h2⟩
theorem BestInv.done {lo : Int} {n : Nat} (he : Ends L S T) (h : BestInv L S S.length lo n) : LowBest L lo n := by
  have all : ∀ t, cnt L t ≤ n := fun t => by
    rcases Nat.eq_zero_or_pos (cnt L t) with e | e
    · omega
    · obtain ⟨i, hi, _, h2⟩ := he.to_low e
      have := h.all i hi
      omega
  refine ⟨all, fun e => (h.none e).1, fun e => ?_⟩
  obtain ⟨k, h1, h2, h3, h4⟩ := h.some e
  refine ⟨h3, fun t ht => ?_⟩
  rcases Nat.eq_zero_or_pos (cnt L t) with e' | e'
  · omega
  · obtain ⟨i, hi, g1, g2⟩ := he.to_low e'
    rcases Nat.lt_or_ge i k with e2 | e2
    · have := h4 i e2; omega
    · have := at_le he.s e2 hi
      omega

/-- runEnd's loop at i. -/
structure RunInv (L : List Pr) (T : List Int) (lo : Int) (n : Nat) (i : Nat) : Prop where
  lt : i < T.length
  le : lo ≤ at_ T i
  all : ∀ t, lo ≤ t → t ≤ at_ T i → cnt L t = n
theorem RunInv.start (he : Ends L S T) {lo : Int} {n : Nat} (h : LowBest L lo n) (hn : 0 < n) : RunInv L T lo n (T.countP fun y => decide (y < lo)) := by
  have h1 := (h.some hn).1
  obtain ⟨i, hi, g1, g2⟩ := he.to_high (t := lo) (by omega)
  have hc := T.countP_le_length (p := fun y => decide (y < lo))
  have hk : (T.countP fun y => decide (y < lo)) ≤ i := by
    rcases Nat.lt_or_ge i (T.countP fun y => decide (y < lo)) with e | e
    · have := (count_cut he.t lo hi).1.2 e; omega
    · exact e
  have hl : (T.countP fun y => decide (y < lo)) < T.length := by omega
  have hlo : lo ≤ at_ T (T.countP fun y => decide (y < lo)) := by
    have := (count_cut he.t lo hl).1
    exact Int.not_lt.1 fun e => absurd (this.1 e) (by omega)
  refine ⟨hl, hlo, fun t h2 h3 => ?_⟩
  have a := h.all t
  have b : cnt L lo ≤ cnt L t := cnt_mono fun p hp hh => by
    refine ⟨by have := hh.1; omega, ?_⟩
    obtain ⟨m, hm, e⟩ := in_at (he.hi_in p hp (Int.le_trans hh.1 hh.2))
    have hge : (T.countP fun y => decide (y < lo)) ≤ m := by
      rcases Nat.lt_or_ge m (T.countP fun y => decide (y < lo)) with e' | e'
      · have := (count_cut he.t lo hm).1.2 e'; have := hh.2; omega
      · exact e'
    have := at_le he.t hge hm
    omega
  omega
theorem RunInv.next (he : Ends L S T) {lo : Int} {n i : Nat} (h : LowBest L lo n) (hn : 0 < n) (hi : RunInv L T lo n i) (hc : cnt L (at_ T i + 1) = n) : RunInv L T lo n (i + 1) := by
  have beyond : ∀ p, p ∈ L → Has p (at_ T i + 1) → ∃ m, i < m ∧ m < T.length ∧ at_ T m = p.2 := fun p hp hh => by
    obtain ⟨m, hm, e⟩ := in_at (he.hi_in p hp (Int.le_trans hh.1 hh.2))
    refine ⟨m, ?_, hm, e⟩
    rcases Nat.lt_or_ge i m with e' | e'
    · exact e'
    · have := at_le he.t e' hi.lt
      have := hh.2
      omega
  obtain ⟨p, hp, hh⟩ := cnt_pos (L := L) (t := at_ T i + 1) (by omega)
  obtain ⟨m, h1, h2, h3⟩ := beyond p hp hh
  have hl : i + 1 < T.length := by omega
  have hs := at_le he.t (show i ≤ i + 1 by omega) hl
  have := hi.le
  refine ⟨hl, by omega, fun t g1 g2 => ?_⟩
  rcases Int.lt_or_le (at_ T i) t with e | e
  · have a := h.all t
    have b : cnt L (at_ T i + 1) ≤ cnt L t := cnt_mono fun q hq hq' => by
      obtain ⟨k, k1, k2, k3⟩ := beyond q hq hq'
      have := at_le he.t (show i + 1 ≤ k by omega) k2
      have := hq'.1
      exact ⟨by omega, by omega⟩
    omega
  · exact hi.all t g1 e
theorem RunInv.done {lo : Int} {n i : Nat} (hf : Fits L) (h : LowBest L lo n) (hn : 0 < n) (hi : RunInv L T lo n i) (hx : ¬ (at_ T i < 9223372036854775807 ∧ cnt L (at_ T i + 1) = n)) : IsBest L lo (at_ T i) n := by
  refine ⟨h, fun e => by omega, fun _ => ⟨hi.le, hi.all, fun e => ?_⟩⟩
  have := hf.range (t := at_ T i + 1) (by omega)
  exact hx ⟨by omega, e⟩
theorem best_none (h : LowBest L 0 0) : IsBest L 0 0 0 := ⟨h, fun _ => rfl, fun h => absurd h (by omega)⟩

theorem most_few {n : Int} (h : n < 1) : IsMost L n 0 0 false := ⟨fun _ => ⟨rfl, rfl, Or.inl h⟩, fun h => by cases h⟩
theorem most_none {n : Int} (he : Ends L S T) (hn : 1 ≤ n) (h : ∀ i, i < S.length → (cnt L (at_ S i) : Int) < n) : IsMost L n 0 0 false := by
  refine ⟨fun _ => ⟨rfl, rfl, Or.inr fun t => ?_⟩, fun h => by cases h⟩
  rcases Nat.eq_zero_or_pos (cnt L t) with e | e
  · omega
  · obtain ⟨i, hi, _, h2⟩ := he.to_low e
    have := h i hi
    omega
theorem most_some {n : Int} (he : Ends L S T) (hn : 1 ≤ n) {i j : Nat} (_hi : i < S.length) (h1 : n ≤ cnt L (at_ S i)) (h2 : ∀ k, k < i → (cnt L (at_ S k) : Int) < n)
    (hj : j < T.length) (h3 : n ≤ cnt L (at_ T j)) (h4 : ∀ k, j < k → k < T.length → (cnt L (at_ T k) : Int) < n) : IsMost L n (at_ S i) (at_ T j) true := by
  refine ⟨(fun h => by cases h), fun _ => ⟨hn, h1, h3, fun t ht => ?_⟩⟩
  obtain ⟨k, k1, k2, k3⟩ := he.to_low (t := t) (by omega)
  obtain ⟨m, m1, m2, m3⟩ := he.to_high (t := t) (by omega)
  constructor
  · rcases Nat.lt_or_ge k i with e | e
    · have := h2 k e; omega
    · have := at_le he.s e k1; omega
  · rcases Nat.lt_or_ge j m with e | e
    · have := h4 m e m1; omega
    · have := at_le he.t e hj; omega
theorem most_high {n : Int} (he : Ends L S T) (hn : 1 ≤ n) {i : Nat} (_hi : i < S.length) (h1 : n ≤ cnt L (at_ S i)) : ∃ j, j < T.length ∧ n ≤ cnt L (at_ T j) := by
  obtain ⟨m, m1, _, m3⟩ := he.to_high (t := at_ S i) (by omega)
  exact ⟨m, m1, by omega⟩
end

/-- The document's Best behind i ranges. -/
structure RefInv (L : List Pr) (i : Nat) (lo : Int) (n : Nat) : Prop where
  all : ∀ k, k < i → (pr L k).1 ≤ (pr L k).2 → cnt L (pr L k).1 ≤ n ∧ (cnt L (pr L k).1 = n → lo ≤ (pr L k).1)
  none : n = 0 → lo = 0
  some : 0 < n → cnt L lo = n
theorem RefInv.start (L : List Pr) : RefInv L 0 0 0 := ⟨fun k hk => absurd hk (by omega), fun _ => rfl, fun h => absurd h (by omega)⟩
theorem RefInv.bad {L : List Pr} {i : Nat} {lo : Int} {n : Nat} (h : RefInv L i lo n) (hb : ¬ (pr L i).1 ≤ (pr L i).2) : RefInv L (i + 1) lo n :=
  ⟨fun k hk hg => by
    rcases (by omega : k < i ∨ k = i) with e | rfl
    · exact h.all k e hg
    · exact absurd hg hb, h.none, h.some⟩
theorem RefInv.up {L : List Pr} {i : Nat} {lo : Int} {n : Nat} (hi : i < L.length) (h : RefInv L i lo n) (hg : (pr L i).1 ≤ (pr L i).2) (hc : n < cnt L (pr L i).1 ∨ cnt L (pr L i).1 = n ∧ (pr L i).1 < lo) : RefInv L (i + 1) (pr L i).1 (cnt L (pr L i).1) := by
  have hp := pos_cnt (pr_in hi) (show Has (pr L i) (pr L i).1 from ⟨Int.le_refl _, hg⟩)
  refine ⟨fun k hk hk' => ?_, fun e => by omega, fun _ => rfl⟩
  rcases (by omega : k < i ∨ k = i) with e | rfl
  · obtain ⟨a, b⟩ := h.all k e hk'
    refine ⟨by omega, fun e' => ?_⟩
    rcases hc with hc | hc
    · omega
    · have := b (by omega); omega
  · exact ⟨Nat.le_refl _, fun _ => Int.le_refl _⟩
theorem RefInv.stay {L : List Pr} {i : Nat} {lo : Int} {n : Nat} (h : RefInv L i lo n) (h1 : cnt L (pr L i).1 ≤ n) (h2 : cnt L (pr L i).1 = n → lo ≤ (pr L i).1) : RefInv L (i + 1) lo n :=
  ⟨fun k hk hg => by
    rcases (by omega : k < i ∨ k = i) with e | rfl
    · exact h.all k e hg
    · exact ⟨h1, h2⟩, h.none, h.some⟩
theorem RefInv.done {L : List Pr} {lo : Int} {n : Nat} (h : RefInv L L.length lo n) : LowBest L lo n := by
  have key : ∀ t, 0 < cnt L t → ∃ k, k < L.length ∧ (pr L k).1 ≤ (pr L k).2 ∧ (pr L k).1 ≤ t ∧ cnt L t ≤ cnt L (pr L k).1 := fun t ht => by
    obtain ⟨p, hp, hg, h1, h2⟩ := to_low ht
    obtain ⟨k, hk, rfl⟩ := in_pr hp
    exact ⟨k, hk, hg, h1, h2⟩
  refine ⟨fun t => ?_, h.none, fun e => ⟨h.some e, fun t ht => ?_⟩⟩
  · rcases Nat.eq_zero_or_pos (cnt L t) with e | e
    · omega
    · obtain ⟨k, hk, hg, _, h2⟩ := key t e
      have := (h.all k hk hg).1
      omega
  · rcases Nat.eq_zero_or_pos (cnt L t) with e' | e'
    · omega
    · obtain ⟨k, hk, hg, h1, h2⟩ := key t e'
      obtain ⟨a, b⟩ := h.all k hk hg
      rcases Nat.lt_or_ge (cnt L (pr L k).1) n with e2 | e2
      · omega
      · have := b (by omega); omega

/-- The document's 'ends' behind i ranges. -/
structure EndInv (L : List Pr) (t : Int) (i : Nat) (r : Int) : Prop where
  all : ∀ k, k < i → Has (pr L k) t → r ≤ (pr L k).2
  of : r = 9223372036854775807 ∨ ∃ k, k < i ∧ Has (pr L k) t ∧ r = (pr L k).2
theorem EndInv.start (L : List Pr) (t : Int) : EndInv L t 0 9223372036854775807 := ⟨fun k hk => absurd hk (by omega), Or.inl rfl⟩
theorem EndInv.has {L : List Pr} {t : Int} {i : Nat} {r : Int} (h : EndInv L t i r) (hh : Has (pr L i) t) : EndInv L t (i + 1) (min r (pr L i).2) := by
  refine ⟨fun k hk hg => ?_, ?_⟩
  · rcases (by omega : k < i ∨ k = i) with e | rfl
    · have := h.all k e hg; omega
    · omega
  · rcases Int.lt_or_le (pr L i).2 r with e | e
    · exact Or.inr ⟨i, by omega, hh, by omega⟩
    · rcases h.of with h' | ⟨k, h1, h2, h3⟩
      · exact Or.inl (by omega)
      · exact Or.inr ⟨k, by omega, h2, by omega⟩
theorem EndInv.not {L : List Pr} {t : Int} {i : Nat} {r : Int} (h : EndInv L t i r) (hh : ¬ Has (pr L i) t) : EndInv L t (i + 1) r := by
  refine ⟨fun k hk hg => ?_, ?_⟩
  · rcases (by omega : k < i ∨ k = i) with e | rfl
    · exact h.all k e hg
    · exact absurd hg hh
  · rcases h.of with h' | ⟨k, h1, h2⟩
    · exact Or.inl h'
    · exact Or.inr ⟨k, by omega, h2⟩
/-- Where some have t: its run goes as far, at least. -/
theorem EndInv.done {L : List Pr} {t r : Int} (hf : Fits L) (h : EndInv L t L.length r) (ht : 0 < cnt L t) : t ≤ r ∧ r ≤ 9223372036854775807 ∧ ∀ s, t ≤ s → s ≤ r → cnt L t ≤ cnt L s := by
  obtain ⟨p, hp, hh⟩ := cnt_pos ht
  obtain ⟨k, hk, rfl⟩ := in_pr hp
  have h1 := h.all k hk hh
  have h2 := hf _ (pr_in hk)
  have hr := hf.range ht
  have e : t ≤ r := by
    rcases h.of with e | ⟨m, m1, m2, m3⟩
    · omega
    · have := m2.2; omega
  refine ⟨e, by omega, fun s s1 s2 => cnt_mono fun q hq hq' => ?_⟩
  obtain ⟨m, hm, rfl⟩ := in_pr hq
  have := h.all m hm hq'
  have := hq'.1
  exact ⟨by omega, by omega⟩
/-- The document's run behind some steps. -/
structure DocRun (L : List Pr) (lo : Int) (n : Nat) (hi : Int) : Prop where
  le : lo ≤ hi
  top : hi ≤ 9223372036854775807
  all : ∀ t, lo ≤ t → t ≤ hi → cnt L t = n
theorem DocRun.start {L : List Pr} {lo r : Int} {n : Nat} (hf : Fits L) (h : LowBest L lo n) (hn : 0 < n) (he : EndInv L lo L.length r) : DocRun L lo n r := by
  have e := (h.some hn).1
  obtain ⟨a, b, c⟩ := he.done hf (by omega)
  exact ⟨a, b, fun t h1 h2 => by have := c t h1 h2; have := h.all t; omega⟩
theorem DocRun.next {L : List Pr} {lo r hi : Int} {n : Nat} (hf : Fits L) (h : LowBest L lo n) (hn : 0 < n) (hd : DocRun L lo n hi) (hc : cnt L (hi + 1) = n) (he : EndInv L (hi + 1) L.length r) : DocRun L lo n r ∧ hi < r := by
  obtain ⟨a, b, c⟩ := he.done hf (by omega)
  have := hd.le
  exact ⟨⟨by omega, b, fun t h1 h2 => by
    rcases Int.lt_or_le hi t with e | e
    · have := c t (by omega) h2; have := h.all t; omega
    · exact hd.all t h1 e⟩, by omega⟩
theorem DocRun.done {L : List Pr} {lo hi : Int} {n : Nat} (hf : Fits L) (h : LowBest L lo n) (hn : 0 < n) (hd : DocRun L lo n hi) (hx : ¬ (hi < 9223372036854775807 ∧ cnt L (hi + 1) = n)) : IsBest L lo hi n := by
  refine ⟨h, fun e => by omega, fun _ => ⟨hd.le, hd.all, fun e => ?_⟩⟩
  have := hf.range (t := hi + 1) (by omega)
  exact hx ⟨by omega, e⟩

/-- The document's Hull behind i ranges, the lows' half. -/
structure HullLow (L : List Pr) (n : Int) (i : Nat) (lo : Int) (f : Bool) : Prop where
  no : f = false → lo = 0 ∧ ∀ k, k < i → (pr L k).1 ≤ (pr L k).2 → (cnt L (pr L k).1 : Int) < n
  yes : f = true → n ≤ cnt L lo ∧ ∀ k, k < i → (pr L k).1 ≤ (pr L k).2 → n ≤ cnt L (pr L k).1 → lo ≤ (pr L k).1
structure HullHigh (L : List Pr) (n : Int) (i : Nat) (hi : Int) (f : Bool) : Prop where
  no : f = false → hi = 0 ∧ ∀ k, k < i → (pr L k).1 ≤ (pr L k).2 → (cnt L (pr L k).2 : Int) < n
  yes : f = true → n ≤ cnt L hi ∧ ∀ k, k < i → (pr L k).1 ≤ (pr L k).2 → n ≤ cnt L (pr L k).2 → (pr L k).2 ≤ hi
theorem HullLow.start (L : List Pr) (n : Int) : HullLow L n 0 0 false := ⟨fun _ => ⟨rfl, fun k hk => absurd hk (by omega)⟩, fun h => by cases h⟩
theorem HullHigh.start (L : List Pr) (n : Int) : HullHigh L n 0 0 false := ⟨fun _ => ⟨rfl, fun k hk => absurd hk (by omega)⟩, fun h => by cases h⟩
section
variable {L : List Pr} {n : Int} {i : Nat} {x : Int} {f : Bool}
theorem HullLow.stay (h : HullLow L n i x f) (hs : (pr L i).1 ≤ (pr L i).2 → (f = false → (cnt L (pr L i).1 : Int) < n) ∧ (f = true → n ≤ cnt L (pr L i).1 → x ≤ (pr L i).1)) : HullLow L n (i + 1) x f :=
  ⟨fun e => ⟨(h.no e).1, fun k hk hg => by
    rcases (by omega : k < i ∨ k = i) with e' | rfl
    · exact (h.no e).2 k e' hg
    · exact (hs hg).1 e⟩, fun e => ⟨(h.yes e).1, fun k hk hg => by
    rcases (by omega : k < i ∨ k = i) with e' | rfl
    · exact (h.yes e).2 k e' hg
    · exact (hs hg).2 e⟩⟩
theorem HullLow.up (h : HullLow L n i x f) (hn : n ≤ cnt L (pr L i).1) (hs : f = true → (pr L i).1 < x) : HullLow L n (i + 1) (pr L i).1 true :=
  ⟨(fun e => by cases e), fun _ => ⟨hn, fun k hk hg hc => by
    rcases (by omega : k < i ∨ k = i) with e' | rfl
    · cases f
      · have := (h.no rfl).2 k e' hg; omega
      · have := (h.yes rfl).2 k e' hg hc; have := hs rfl; omega
    · exact Int.le_refl _⟩⟩
theorem HullHigh.stay (h : HullHigh L n i x f) (hs : (pr L i).1 ≤ (pr L i).2 → (f = false → (cnt L (pr L i).2 : Int) < n) ∧ (f = true → n ≤ cnt L (pr L i).2 → (pr L i).2 ≤ x)) : HullHigh L n (i + 1) x f :=
  ⟨fun e => ⟨(h.no e).1, fun k hk hg => by
    rcases (by omega : k < i ∨ k = i) with e' | rfl
    · exact (h.no e).2 k e' hg
    · exact (hs hg).1 e⟩, fun e => ⟨(h.yes e).1, fun k hk hg => by
    rcases (by omega : k < i ∨ k = i) with e' | rfl
    · exact (h.yes e).2 k e' hg
    · exact (hs hg).2 e⟩⟩
theorem HullHigh.up (h : HullHigh L n i x f) (hn : n ≤ cnt L (pr L i).2) (hs : f = true → x < (pr L i).2) : HullHigh L n (i + 1) (pr L i).2 true :=
  ⟨(fun e => by cases e), fun _ => ⟨hn, fun k hk hg hc => by
    rcases (by omega : k < i ∨ k = i) with e' | rfl
    · cases f
      · have := (h.no rfl).2 k e' hg; omega
      · have := (h.yes rfl).2 k e' hg hc; have := hs rfl; omega
    · exact Int.le_refl _⟩⟩
theorem hull_low (h : HullLow L n L.length x f) (hn : 1 ≤ n) {t : Int} (ht : n ≤ cnt L t) : f = true ∧ x ≤ t := by
  obtain ⟨p, hp, hg, h1, h2⟩ := to_low (L := L) (t := t) (by omega)
  obtain ⟨k, hk, rfl⟩ := in_pr hp
  cases f
  · have := (h.no rfl).2 k hk hg; omega
  · have := (h.yes rfl).2 k hk hg (by omega); exact ⟨rfl, by omega⟩
theorem hull_high (h : HullHigh L n L.length x f) (hn : 1 ≤ n) {t : Int} (ht : n ≤ cnt L t) : f = true ∧ t ≤ x := by
  obtain ⟨p, hp, hg, h1, h2⟩ := to_high (L := L) (t := t) (by omega)
  obtain ⟨k, hk, rfl⟩ := in_pr hp
  cases f
  · have := (h.no rfl).2 k hk hg; omega
  · have := (h.yes rfl).2 k hk hg (by omega); exact ⟨rfl, by omega⟩
theorem hull_some {y : Int} (h1 : HullLow L n L.length x true) (h2 : HullHigh L n L.length y true) (hn : 1 ≤ n) : IsMost L n x y true :=
  ⟨(fun h => by cases h), fun _ => ⟨hn, (h1.yes rfl).1, (h2.yes rfl).1, fun t ht => ⟨(hull_low h1 hn ht).2, (hull_high h2 hn ht).2⟩⟩⟩
theorem hull_none (hn : 1 ≤ n) (h : HullLow L n L.length x false ∨ ∃ y, HullHigh L n L.length y false) : IsMost L n 0 0 false :=
  ⟨fun _ => ⟨rfl, rfl, Or.inr fun t => Int.not_le.1 fun ht => by
    rcases h with h | ⟨y, h⟩
    · have := (hull_low h hn ht).1; cases this
    · have := (hull_high h hn ht).1; cases this⟩, fun h => by cases h⟩
end
end Go.Proofs.Ytapfdceopbkcgaa.PCross
