/- Quorums as plain data: who has how much (seven places), which number most reach. No program is named here. -/
import Derived.Test.YtdgpjolohghboaaPlainTeam
namespace Go.Proofs.Ytdgpjolohghboaa.PQuo
open PTeam

def ge (l : List Int) (x : Int) : Nat := l.countP fun y => decide (x ≤ y)
def gt (l : List Int) (x : Int) : Nat := l.countP fun y => decide (x < y)
/-- What most of n reach, and nothing above it is. -/
def IsR (l : List Int) (n r : Int) : Prop := n / 2 < (ge l r : Int) ∧ (gt l r : Int) ≤ n / 2

theorem ge_le_gt (l : List Int) {x y : Int} (h : x < y) : ge l y ≤ gt l x := List.countP_mono_left fun z _ hz => by
  have := of_decide_eq_true hz; exact decide_eq_true (by omega)
theorem uniq {l : List Int} {n r s : Int} (h : IsR l n r) (k : IsR l n s) : r = s := by
  rcases Int.lt_trichotomy r s with e | e | e
  · have := ge_le_gt l e; have := h.2; have := k.1; omega
  · exact e
  · have := ge_le_gt l e; have := k.2; have := h.1; omega
/-- The place from the top of a list that rises. -/
theorem of_sorted {l S : List Int} (hp : S.Perm l) (hs : S.Pairwise (· ≤ ·)) (h7 : l.length = 7) (n : Int) (i : Nat) (hi : (i : Int) = 6 - n / 2) (hi7 : i < 7) : IsR l n (S.getD i 0) := by
  have hl : S.length = 7 := hp.length_eq.trans h7
  have hx : S.getD i 0 = S[i]'(by omega) := by rw [List.getD_eq_getElem?_getD, List.getElem?_eq_getElem (by omega)]; rfl
  have e0 : S = S.take i ++ S.drop i := (List.take_append_drop i S).symm
  have e1 : S = S.take (i + 1) ++ S.drop (i + 1) := (List.take_append_drop (i + 1) S).symm
  have hpw := List.pairwise_iff_getElem.1 hs
  obtain ⟨x, hxx⟩ : ∃ x, S.getD i 0 = x := ⟨_, rfl⟩
  rw [hxx] at hx
  rw [hxx]
  have hup : ∀ y ∈ S.drop i, x ≤ y := by
    intro y hy
    obtain ⟨j, hj, rfl⟩ := List.getElem_of_mem hy
    rw [List.length_drop] at hj
    rw [List.getElem_drop, hx]
    rcases Nat.eq_zero_or_pos j with rfl | h0
    · exact Int.le_refl _
    · exact hpw i (i + j) (by omega) (by omega) (by omega)
  have hdn : ∀ y ∈ S.take (i + 1), y ≤ x := by
    intro y hy
    obtain ⟨j, hj, rfl⟩ := List.getElem_of_mem hy
    rw [List.length_take] at hj
    rw [List.getElem_take, hx]
    rcases (by omega : j = i ∨ j < i) with rfl | h0
    · exact Int.le_refl _
    · exact hpw j i (by omega) (by omega) h0
  refine ⟨?_, ?_⟩
  · have h1 : ge l (x) = ge S (x) := (hp.countP_eq _).symm
    have h2 : ge S (x) = ge (S.take i) (x) + ge (S.drop i) (x) := by
      unfold ge; conv => lhs; rw [e0]
      rw [List.countP_append]
    have h3 : ge (S.drop i) (x) = (S.drop i).length := List.countP_eq_length.2 fun y hy => decide_eq_true (hup y hy)
    rw [List.length_drop, hl] at h3
    omega
  · have h1 : gt l (x) = gt S (x) := (hp.countP_eq _).symm
    have h2 : gt S (x) = gt (S.take (i + 1)) (x) + gt (S.drop (i + 1)) (x) := by
      unfold gt; conv => lhs; rw [e1]
      rw [List.countP_append]
    have h3 : gt (S.take (i + 1)) (x) = 0 := List.countP_eq_zero.2 fun y hy => by have := hdn y hy; simp; exact this
    have h4 : gt (S.drop (i + 1)) (x) ≤ (S.drop (i + 1)).length := List.countP_le_length
    rw [List.length_drop, hl] at h4
    omega

/-- Who has how much: seven places; who is none of them has 0; none has more than u. -/
structure Ok (m : Nat) (H : List Int) (u : Int) : Prop where
  len : H.length = 7
  lo : ∀ k : Nat, k < 7 → 0 ≤ H.getD k 0
  hi : ∀ k : Nat, k < 7 → H.getD k 0 ≤ u
  out : ∀ k : Nat, k < 7 → has m ((k : Int) + 1) = false → H.getD k 0 = 0
def none7 : List Int := [0, 0, 0, 0, 0, 0, 0]
theorem ok_none (m : Nat) {u : Int} (hu : 0 ≤ u) : Ok m none7 u := by
  have h : ∀ k : Nat, k < 7 → none7.getD k 0 = 0 := by decide
  exact ⟨rfl, fun k hk => by rw [h k hk]; exact Int.le_refl _, fun k hk => by rw [h k hk]; exact hu, fun k hk _ => h k hk⟩
/-- One's place. -/
def pl (id : Int) : Nat := (id - 1).toNat
def upd (H : List Int) (id x : Int) : List Int := H.set (pl id) (max (H.getD (pl id) 0) x)
theorem getD_set (H : List Int) (i j : Nat) (v : Int) (hi : i < H.length) : (H.set i v).getD j 0 = if i = j then v else H.getD j 0 := by
  rw [List.getD_eq_getElem?_getD, List.getD_eq_getElem?_getD, List.getElem?_set]
  by_cases e : i = j
  · subst e; simp [hi]
  · simp [e]
theorem pl_in {m : Nat} (hm : m < 128) {id : Int} (h : has m id = true) : 1 ≤ id ∧ id ≤ 7 ∧ pl id < 7 ∧ ((pl id : Nat) : Int) + 1 = id := by
  rw [has_bits m hm id] at h
  have h1 : 1 ≤ id ∧ id ≤ 7 := by
    rw [Bool.and_eq_true] at h; exact of_decide_eq_true h.1
  unfold pl
  omega
theorem upd_len (H : List Int) (id x : Int) : (upd H id x).length = H.length := by simp [upd]
theorem ok_set {m : Nat} {H : List Int} {u v x id : Int} (hm : m < 128) (h : Ok m H u) (hid : has m id = true) (h0 : 0 ≤ x) (hx : x ≤ v) (huv : u ≤ v) : Ok m (H.set (pl id) x) v := by
  obtain ⟨a, b, c, d⟩ := pl_in hm hid
  have hl := h.len
  refine ⟨by rw [List.length_set]; exact hl, fun k hk => ?_, fun k hk => ?_, fun k hk ho => ?_⟩
  · rw [getD_set _ _ _ _ (by omega)]
    have := h.lo k hk
    split <;> omega
  · rw [getD_set _ _ _ _ (by omega)]
    have := h.hi k hk
    split <;> omega
  · rw [getD_set _ _ _ _ (by omega)]
    rw [if_neg]
    · exact h.out k hk ho
    · rintro rfl
      rw [d, hid] at ho; cases ho
theorem ok_upd {m : Nat} {H : List Int} {u x id : Int} (hm : m < 128) (h : Ok m H u) (hid : has m id = true) (hx : x ≤ u) : Ok m (upd H id x) u := by
  obtain ⟨a, b, c, d⟩ := pl_in hm hid
  have := h.lo _ c
  have := h.hi _ c
  exact ok_set hm h hid (by omega) (by omega) (Int.le_refl _)
theorem ok_more {m : Nat} {H : List Int} {u v : Int} (h : Ok m H u) (huv : u ≤ v) : Ok m H v := ⟨h.len, h.lo, fun k hk => by have := h.hi k hk; omega, h.out⟩
theorem upd_same {m : Nat} {H : List Int} {u x id : Int} (hm : m < 128) (h : Ok m H u) (hid : has m id = true) (hx : x ≤ H.getD (pl id) 0) : upd H id x = H := by
  obtain ⟨a, b, c, d⟩ := pl_in hm hid
  have hl := h.len
  unfold upd
  rw [Int.max_eq_left hx]
  refine List.ext_getElem? fun j => ?_
  rw [List.getElem?_set]
  by_cases e : pl id = j
  · subst e
    simp [List.getD_eq_getElem?_getD, show pl id < H.length by omega]
  · simp [e]

/-- All counts of a list by its places. -/
theorem by_place (H : List Int) (h : H.length = 7) : H = (List.range 7).map fun k => H.getD k 0 := by
  refine List.ext_getElem (by simp [h]) fun i h1 h2 => ?_
  rw [List.getElem_map, List.getElem_range, List.getD_eq_getElem?_getD, List.getElem?_eq_getElem h1]; rfl
theorem count_place (H : List Int) (h : H.length = 7) (p : Int → Bool) : H.countP p = (List.range 7).countP fun k => p (H.getD k 0) := by
  conv => lhs; rw [by_place H h]
  rw [List.countP_map]; rfl
/-- Those of a team, of a number that who is none of it has not. -/
theorem count_lst {m : Nat} {H : List Int} {u : Int} (hm : m < 128) (h : Ok m H u) (p : Int → Bool) (h0 : p 0 = false) : ((lst m).map fun id => H.getD (pl id) 0).countP p = H.countP p := by
  rw [count_place H h.len]
  unfold lst lstTo
  rw [List.map_map, List.countP_map, List.countP_filter]
  refine List.countP_congr fun k hk => ?_
  have hk := List.mem_range.1 hk
  have e : pl ((k : Int) + 1) = k := by unfold pl; omega
  simp only [Function.comp_apply, e, Bool.and_eq_true]
  constructor
  · exact fun h => h.1
  · intro hp
    refine ⟨hp, ?_⟩
    have := has_in m k hm hk
    cases ht : m.testBit k
    · rw [ht] at this
      rw [h.out k hk this, h0] at hp; cases hp
    · rfl
theorem most_in {m : Nat} {n : Int} (h : most m n = true) : 3 ≤ n ∧ n ≤ 7 ∧ m < 128 ∧ n / 2 < (cnt m : Int) ∧ m < 2 ^ n.toNat := by
  unfold most may at h
  simp only [Bool.and_eq_true, decide_eq_true_eq, Int.toNat_natCast] at h
  obtain ⟨⟨⟨h3, h7⟩, h0, h1⟩, h2⟩ := h
  have h1' : m < 2 ^ n.toNat := by
    have : ((2 ^ n.toNat : Nat) : Int) = 2 ^ n.toNat := by simp
    omega
  refine ⟨h3, h7, Nat.lt_of_lt_of_le h1' ?_, h2, h1'⟩
  exact Nat.pow_le_pow_right (by omega) (show n.toNat ≤ 7 by omega)
/-- What the laws count of a list of the team's. -/
theorem lst_isR {m : Nat} {H : List Int} {u n r : Int} (h : Ok m H u) (hm : most m n = true) (hr : IsR H n r) (hr0 : 0 ≤ r) :
    n / 2 < (ge ((lst m).map fun id => H.getD (pl id) 0) r : Int) ∧ (gt ((lst m).map fun id => H.getD (pl id) 0) r : Int) ≤ n / 2 := by
  obtain ⟨h3, h7, hlt, hc, _⟩ := most_in hm
  constructor
  · by_cases e : r = 0
    · subst e
      have : ge ((lst m).map fun id => H.getD (pl id) 0) 0 = ((lst m).map fun id => H.getD (pl id) 0).length := List.countP_eq_length.2 fun y hy => by
        obtain ⟨id, hid, rfl⟩ := List.mem_map.1 hy
        obtain ⟨_, _, hp, _⟩ := pl_in hlt ((lst_mem m hlt id).1 hid)
        exact decide_eq_true (h.lo _ hp)
      rw [this, List.length_map, lst_length]; exact hc
    · unfold ge
      rw [count_lst hlt h _ (decide_eq_false (by omega))]
      exact hr.1
  · unfold gt
    rw [count_lst hlt h _ (decide_eq_false (by omega))]
    exact hr.2
theorem isR_lo {m : Nat} {H : List Int} {u n r : Int} (h : Ok m H u) (hm : most m n = true) (hr : IsR H n r) : 0 ≤ r := by
  obtain ⟨h3, h7, _⟩ := most_in hm
  rcases Int.lt_or_le r 0 with e | e
  · have : gt H r = H.length := List.countP_eq_length.2 fun y hy => by
      obtain ⟨k, hk, rfl⟩ := List.getElem_of_mem hy
      have := h.lo k (by rw [← h.len]; exact hk)
      rw [List.getD_eq_getElem?_getD, List.getElem?_eq_getElem hk] at this
      have h0 : 0 ≤ H[k] := this
      exact decide_eq_true (by omega)
    have := hr.2
    have := h.len
    omega
  · exact e
theorem isR_hi {m : Nat} {H : List Int} {u n r : Int} (h : Ok m H u) (hm : most m n = true) (hr : IsR H n r) : r ≤ u := by
  obtain ⟨h3, h7, _⟩ := most_in hm
  rcases Int.lt_or_le u r with e | e
  · have : ge H r = 0 := List.countP_eq_zero.2 fun y hy => by
      obtain ⟨k, hk, rfl⟩ := List.getElem_of_mem hy
      have := h.hi k (by rw [← h.len]; exact hk)
      rw [List.getD_eq_getElem?_getD, List.getElem?_eq_getElem hk] at this
      have h0 : H[k] ≤ u := this
      simp; omega
    have := hr.1
    omega
  · exact e
/-- It never falls. -/
theorem isR_rise {H H' : List Int} {n r r' : Int} (hl : H.length = 7) (hl' : H'.length = 7) (hle : ∀ k, k < 7 → H.getD k 0 ≤ H'.getD k 0) (h : IsR H n r) (h' : IsR H' n r') : r ≤ r' := by
  rcases Int.lt_or_le r' r with e | e
  · have h1 : ge H r ≤ ge H' r := by
      unfold ge
      rw [count_place H hl, count_place H' hl']
      refine List.countP_mono_left fun k hk hz => ?_
      have := hle k (List.mem_range.1 hk)
      have := of_decide_eq_true hz
      exact decide_eq_true (by omega)
    have := ge_le_gt H' e
    have := h.1
    have := h'.2
    omega
  · exact e
theorem upd_le {H : List Int} {id x : Int} (hl : H.length = 7) (hp : pl id < 7) (k : Nat) : H.getD k 0 ≤ (upd H id x).getD k 0 := by
  unfold upd
  rw [getD_set _ _ _ _ (by omega)]
  split
  · rename_i e; subst e; omega
  · omega

/-- What stands fast in one team is had by someone of any other. -/
theorem meet {a b : Nat} {H : List Int} {u n r : Int} (h : Ok a H u) (ha : most a n = true) (hb : most b n = true) (hr : IsR H n r) : ∃ k : Nat, k < 7 ∧ has a ((k : Int) + 1) = true ∧ has b ((k : Int) + 1) = true ∧ r ≤ H.getD k 0 := by
  obtain ⟨h3, h7, hlt, hc, hp⟩ := most_in ha
  obtain ⟨_, _, hlt', hc', hp'⟩ := most_in hb
  have hr0 := isR_lo h ha hr
  let p : Nat → Bool := fun k => a.testBit k && decide (r ≤ H.getD k 0)
  let q : Nat → Bool := fun k => b.testBit k
  have hpq : n / 2 < ((List.range 7).countP p : Int) := by
    have := (lst_isR h ha hr hr0).1
    unfold ge lst lstTo at this
    rw [List.map_map, List.countP_map, List.countP_filter] at this
    have e : (List.range 7).countP (fun a_1 => ((fun y => decide (r ≤ y)) ∘ (fun id => H.getD (pl id) 0) ∘ fun i : Nat => (i : Int) + 1) a_1 && a.testBit a_1) = (List.range 7).countP p := by
      refine List.countP_congr fun k hk => ?_
      have e : pl ((k : Int) + 1) = k := by unfold pl; omega
      simp only [Function.comp_apply, e, p]
      rw [Bool.and_comm]
    rw [e] at this
    exact this
  by_cases hex : ∃ k : Nat, k < 7 ∧ p k = true ∧ q k = true
  · obtain ⟨k, hk, h1, h2⟩ := hex
    simp only [p, Bool.and_eq_true, decide_eq_true_eq] at h1
    exact ⟨k, hk, by rw [has_in a k hlt hk]; exact h1.1, by rw [has_in b k hlt' hk]; exact h2, h1.2⟩
  · exfalso
    have hd : ∀ k, k < 7 → p k = true → q k = false := fun k hk h1 => by
      cases h2 : q k
      · rfl
      · exact absurd ⟨k, hk, h1, h2⟩ hex
    have hsum : ∀ l : List Nat, (∀ k ∈ l, k < 7) → l.countP p + l.countP q ≤ l.countP fun k : Nat => decide ((k : Int) < n) := by
      intro l
      induction l with
      | nil => intro _; simp
      | cons x l ih =>
        intro hl
        have hx := hl x (List.mem_cons_self ..)
        have := ih fun k hk => hl k (List.mem_cons_of_mem _ hk)
        rw [List.countP_cons, List.countP_cons, List.countP_cons]
        have hn1 : p x = true → (x : Int) < n := fun h1 => by
          simp only [p, Bool.and_eq_true] at h1
          rcases Nat.lt_or_ge x n.toNat with e | e
          · omega
          · rw [Nat.testBit_lt_two_pow (Nat.lt_of_lt_of_le hp (Nat.pow_le_pow_right (by omega) e))] at h1; cases h1.1
        have hn2 : q x = true → (x : Int) < n := fun h1 => by
          rcases Nat.lt_or_ge x n.toNat with e | e
          · omega
          · have h1 : b.testBit x = true := h1
            rw [Nat.testBit_lt_two_pow (Nat.lt_of_lt_of_le hp' (Nat.pow_le_pow_right (by omega) e))] at h1; cases h1
        cases h1 : p x
        · cases h2 : q x
          · simp; omega
          · simp [hn2 h2]; omega
        · rw [hd x hx h1]; simp [hn1 h1]; omega
    have h1 := hsum (List.range 7) fun k hk => List.mem_range.1 hk
    have h2 : ((List.range 7).countP fun k : Nat => decide ((k : Int) < n) : Nat) = n.toNat := by
      obtain ⟨j, rfl⟩ := Int.eq_ofNat_of_zero_le (show 0 ≤ n by omega)
      have : j = 3 ∨ j = 4 ∨ j = 5 ∨ j = 6 ∨ j = 7 := by omega
      rcases this with rfl | rfl | rfl | rfl | rfl <;> rfl
    have h3 : (List.range 7).countP q = cnt b := rfl
    omega

/-- The document's own: of each place how many reach it; the greatest that most reach. -/
def dcnt (m : Nat) (H : List Int) (x : Int) (k : Nat) : Nat := (List.range k).countP fun j : Nat => has m ((j : Int) + 1) && decide (x ≤ H.getD j 0)
theorem dcnt_succ (m : Nat) (H : List Int) (x : Int) (k : Nat) : dcnt m H x (k + 1) = dcnt m H x k + if has m ((k : Int) + 1) && decide (x ≤ H.getD k 0) then 1 else 0 := by
  unfold dcnt
  rw [List.range_succ, List.countP_append, List.countP_cons]
  simp
theorem dcnt_le (m : Nat) (H : List Int) (x : Int) (k : Nat) : dcnt m H x k ≤ k := Nat.le_trans List.countP_le_length (by simp)
def dok (m : Nat) (n : Int) (H : List Int) (i : Nat) : Bool := has m ((i : Int) + 1) && decide (n / 2 < (dcnt m H (H.getD i 0) 7 : Int))
def dbest (m : Nat) (n : Int) (H : List Int) : Nat → Int
  | 0 => 0
  | i + 1 => if dok m n H i then max (dbest m n H i) (H.getD i 0) else dbest m n H i
theorem dbest_le (m : Nat) (n : Int) (H : List Int) {i k : Nat} (hk : k < i) (h : dok m n H k = true) : H.getD k 0 ≤ dbest m n H i := by
  induction i with
  | zero => omega
  | succ i ih =>
    unfold dbest
    rcases (by omega : k < i ∨ k = i) with e | rfl
    · have := ih e
      split <;> omega
    · rw [if_pos h]; omega
theorem dbest_lo (m : Nat) (n : Int) (H : List Int) (i : Nat) : 0 ≤ dbest m n H i := by
  induction i with
  | zero => exact Int.le_refl _
  | succ i ih => unfold dbest; split <;> omega
theorem dbest_hi {m : Nat} {H : List Int} {u : Int} (hu : 0 ≤ u) (h : Ok m H u) (n : Int) {i : Nat} (hi : i ≤ 7) : dbest m n H i ≤ u := by
  induction i with
  | zero => exact hu
  | succ i ih =>
    have := ih (by omega)
    have := h.hi i (by omega)
    unfold dbest; split <;> omega
theorem dbest_one (m : Nat) (n : Int) (H : List Int) (i : Nat) : dbest m n H i = 0 ∨ ∃ k, k < i ∧ dok m n H k = true ∧ H.getD k 0 = dbest m n H i := by
  induction i with
  | zero => exact .inl rfl
  | succ i ih =>
    by_cases h : dok m n H i = true
    · have e : dbest m n H (i + 1) = max (dbest m n H i) (H.getD i 0) := by rw [dbest]; exact if_pos h
      rw [e]
      rcases Int.le_total (dbest m n H i) (H.getD i 0) with g | g
      · rw [Int.max_eq_right g]; exact .inr ⟨i, by omega, h, rfl⟩
      · rw [Int.max_eq_left g]
        rcases ih with h0 | ⟨k, hk, h1, h2⟩
        · exact .inl h0
        · exact .inr ⟨k, by omega, h1, h2⟩
    · have e : dbest m n H (i + 1) = dbest m n H i := by rw [dbest]; exact if_neg h
      rw [e]
      rcases ih with h0 | ⟨k, hk, h1, h2⟩
      · exact .inl h0
      · exact .inr ⟨k, by omega, h1, h2⟩
theorem dcnt_all {m : Nat} {H : List Int} {u : Int} (h : Ok m H u) {x : Int} (hx : 0 < x) : dcnt m H x 7 = ge H x := by
  unfold dcnt ge
  rw [count_place H h.len]
  refine List.countP_congr fun k hk => ?_
  have hk := List.mem_range.1 hk
  rw [Bool.and_eq_true]
  constructor
  · exact fun h => h.2
  · intro hp
    refine ⟨?_, hp⟩
    cases ht : has m ((k : Int) + 1)
    · rw [h.out k hk ht] at hp; have := of_decide_eq_true hp; omega
    · rfl
/-- The least of those above. -/
theorem least_above (H : List Int) (d : Int) : gt H d = 0 ∨ ∃ y ∈ H, d < y ∧ gt H d = ge H y := by
  have key : ∀ (l : List Int), (∀ y ∈ l, y ≤ d) ∨ ∃ y ∈ l, d < y ∧ ∀ z ∈ l, d < z → y ≤ z := by
    intro l
    induction l with
    | nil => exact .inl fun y hy => by cases hy
    | cons x l ih =>
      rcases Int.lt_or_le d x with hx | hx
      · rcases ih with h | ⟨y, hy, hdy, hm⟩
        · refine .inr ⟨x, List.mem_cons_self .., hx, fun z hz hdz => ?_⟩
          rcases List.mem_cons.1 hz with rfl | hz
          · exact Int.le_refl _
          · have := h z hz; omega
        · rcases Int.le_total x y with g | g
          · refine .inr ⟨x, List.mem_cons_self .., hx, fun z hz hdz => ?_⟩
            rcases List.mem_cons.1 hz with rfl | hz
            · exact Int.le_refl _
            · have := hm z hz hdz; omega
          · refine .inr ⟨y, List.mem_cons_of_mem _ hy, hdy, fun z hz hdz => ?_⟩
            rcases List.mem_cons.1 hz with rfl | hz
            · exact g
            · exact hm z hz hdz
      · rcases ih with h | ⟨y, hy, hdy, hm⟩
        · refine .inl fun y hy => ?_
          rcases List.mem_cons.1 hy with rfl | hy
          · exact hx
          · exact h y hy
        · refine .inr ⟨y, List.mem_cons_of_mem _ hy, hdy, fun z hz hdz => ?_⟩
          rcases List.mem_cons.1 hz with rfl | hz
          · omega
          · exact hm z hz hdz
  rcases key H with h | ⟨y, hy, hdy, hm⟩
  · exact .inl (List.countP_eq_zero.2 fun z hz => by have := h z hz; simp; omega)
  · refine .inr ⟨y, hy, hdy, List.countP_congr fun z hz => ?_⟩
    rw [decide_eq_true_eq, decide_eq_true_eq]
    exact ⟨hm z hz, fun h => by omega⟩
theorem dbest_isR {m : Nat} {H : List Int} {u n : Int} (h : Ok m H u) (hm : most m n = true) : IsR H n (dbest m n H 7) := by
  obtain ⟨h3, h7, hlt, hc, _⟩ := most_in hm
  have h0 := dbest_lo m n H 7
  refine ⟨?_, ?_⟩
  · rcases dbest_one m n H 7 with e | ⟨k, hk, h1, h2⟩
    · rw [e]
      have : ge H 0 = H.length := List.countP_eq_length.2 fun y hy => by
        obtain ⟨k, hk, rfl⟩ := List.getElem_of_mem hy
        have := h.lo k (by rw [← h.len]; exact hk)
        rw [List.getD_eq_getElem?_getD, List.getElem?_eq_getElem hk] at this
        exact decide_eq_true this
      rw [this, h.len]; omega
    · rcases (by omega : dbest m n H 7 = 0 ∨ 0 < dbest m n H 7) with e | e
      · rw [e]
        have : ge H 0 = H.length := List.countP_eq_length.2 fun y hy => by
          obtain ⟨k, hk, rfl⟩ := List.getElem_of_mem hy
          have := h.lo k (by rw [← h.len]; exact hk)
          rw [List.getD_eq_getElem?_getD, List.getElem?_eq_getElem hk] at this
          exact decide_eq_true this
        rw [this, h.len]; omega
      · rw [← dcnt_all h e]
        unfold dok at h1
        rw [Bool.and_eq_true, decide_eq_true_eq, h2] at h1
        exact h1.2
  · rcases Int.lt_or_le (n / 2) (gt H (dbest m n H 7)) with g | g
    · exfalso
      rcases least_above H (dbest m n H 7) with e | ⟨y, hy, hd, e⟩
      · omega
      · obtain ⟨k, hk, rfl⟩ := List.getElem_of_mem hy
        have hk7 : k < 7 := by rw [← h.len]; exact hk
        have hx : H.getD k 0 = H[k] := by rw [List.getD_eq_getElem?_getD, List.getElem?_eq_getElem hk]; rfl
        have hh : has m ((k : Int) + 1) = true := by
          cases ht : has m ((k : Int) + 1)
          · have := h.out k hk7 ht; omega
          · rfl
        have : dok m n H k = true := by
          unfold dok
          rw [hh, Bool.true_and, decide_eq_true_eq, hx, dcnt_all h (by omega), ← e]; exact g
        have := dbest_le m n H hk7 this
        omega
    · exact g
end Go.Proofs.Ytdgpjolohghboaa.PQuo
