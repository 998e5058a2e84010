/- Plain mathematics of votes: seven places, who voted, the best vote. No program is named here. -/
import Derived.Test.YtheeigbljjcbpaaPlainLog
import Derived.Test.YtheeigbljjcbpaaPlainTeam
import Derived.Test.YtheeigbljjcbpaaRowK
namespace Go.Proofs.Ytheeigbljjcbpaa

/-- A vote. -/
structure Vt where
  fr : Int
  last : Int
  es : List Ent
  com : Int

namespace PVote
open PTeam
def zero : Vt := ⟨0, 0, [], 0⟩
def none7 : List (Option Vt) := List.replicate 7 none
def isLog (es : List Ent) : Bool := decide ((PLog.log es).length = es.length)
/-- A vote that may be. -/
def good (view n : Int) (v : Vt) : Bool := decide (1 ≤ v.fr ∧ v.fr ≤ n) && decide (0 ≤ v.last ∧ v.last < view) && isLog v.es && decide (0 ≤ v.com ∧ v.com ≤ v.es.length)
/-- Who voted, as numbers, as bits; the votes. -/
def ids (S : List (Option Vt)) : List Int := ((List.range 7).filter fun k => (S.getD k none).isSome).map fun k : Nat => (k : Int) + 1
def tm (S : List (Option Vt)) : Nat := ofL (ids S)
def got (S : List (Option Vt)) : List Vt := S.filterMap id
def put (S : List (Option Vt)) (v : Vt) : List (Option Vt) := S.set (v.fr - 1).toNat (some v)
def ok (view n : Int) (S : List (Option Vt)) (v : Vt) : Bool := good view n v && !has (tm S) v.fr
def add (view n : Int) (S : List (Option Vt)) (v : Vt) : List (Option Vt) := if ok view n S v = true then put S v else S
/-- The vote at a place; none is the zero one. -/
def tab (S : List (Option Vt)) : List Vt := S.map (·.getD zero)
/-- Is x better than b? -/
def better (x b : Vt) : Bool := decide (b.last < x.last ∨ x.last = b.last ∧ (b.es.length < x.es.length ∨ x.es.length = b.es.length ∧ x.fr < b.fr))
def pickB (b x : Vt) : Vt := if b.fr = 0 ∨ better x b = true then x else b
def step (p : Vt × Int) (x : Vt) : Vt × Int := (pickB p.1 x, max p.2 x.com)
def run (l : List Vt) : Vt × Int := l.foldl step (zero, 0)
def cutc (p : Vt × Int) : Vt := ⟨p.1.fr, p.1.last, p.1.es, min p.2 p.1.es.length⟩
def best (n : Int) (S : List (Option Vt)) : Vt := if most (tm S) n = true then cutc (run (got S)) else zero

theorem tm_lt (S : List (Option Vt)) : tm S < 128 := ofL_lt _
theorem tm_has (S : List (Option Vt)) {k : Nat} (hk : k < 7) : has (tm S) ((k : Int) + 1) = (S.getD k none).isSome := by
  unfold tm
  rw [has_ofL _ _ (by omega) (by omega), Bool.eq_iff_iff, List.contains_iff_mem]
  unfold ids
  rw [List.mem_map]
  constructor
  · rintro ⟨j, hj, e⟩
    obtain rfl : j = k := by omega
    exact (List.mem_filter.1 hj).2
  · intro h
    exact ⟨k, List.mem_filter.2 ⟨List.mem_range.2 hk, h⟩, rfl⟩
theorem tm_bit (S : List (Option Vt)) {k : Nat} (hk : k < 7) : (tm S).testBit k = (S.getD k none).isSome := by rw [← has_in _ k (tm_lt S) hk, tm_has S hk]
theorem bits_ext {t u : Nat} (ht : t < 128) (hu : u < 128) (h : ∀ k, k < 7 → t.testBit k = u.testBit k) : t = u := by
  apply Nat.eq_of_testBit_eq
  intro i
  by_cases hi : i < 7
  · exact h i hi
  · have hp : 2 ^ 7 ≤ 2 ^ i := Nat.pow_le_pow_right (by decide) (by omega)
    rw [Nat.testBit_lt_two_pow (by omega), Nat.testBit_lt_two_pow (by omega)]
theorem getD_set {α : Type} (S : List α) (k j : Nat) (v z : α) : (S.set k v).getD j z = if k = j ∧ j < S.length then v else S.getD j z := by
  rw [List.getD_eq_getElem?_getD, List.getD_eq_getElem?_getD, List.getElem?_set]
  by_cases h : k = j
  · subst h
    by_cases hl : k < S.length
    · rw [if_pos rfl, if_pos hl, if_pos ⟨rfl, hl⟩]; rfl
    · rw [if_pos rfl, if_neg hl, if_neg (fun q => hl q.2), List.getElem?_eq_none (by omega)]
  · rw [if_neg h, if_neg (fun q => h q.1)]
theorem tm_put (S : List (Option Vt)) (h7 : S.length = 7) (v : Vt) (h1 : 1 ≤ v.fr) (h2 : v.fr ≤ 7) : tm (put S v) = wth (tm S) v.fr := by
  refine bits_ext (tm_lt _) (wth_lt (tm_lt S) _) fun k hk => ?_
  rw [tm_bit _ hk]
  unfold wth
  rw [Nat.testBit_or, tm_bit _ hk, bit_one v.fr k hk]
  unfold put
  rw [getD_set]
  by_cases e : v.fr = k + 1
  · rw [if_pos ⟨by omega, by omega⟩]; simp [e]
  · rw [if_neg (fun q => e (by omega))]; simp [e]
theorem tm_none : tm none7 = 0 := by decide
theorem put_len (S : List (Option Vt)) (v : Vt) : (put S v).length = S.length := List.length_set ..
theorem add_len (view n : Int) (S : List (Option Vt)) (v : Vt) : (add view n S v).length = S.length := by unfold add; split; exact put_len S v; rfl
theorem lst_tm (S : List (Option Vt)) : lst (tm S) = ids S := by
  show ((List.range 7).filter fun i => (tm S).testBit i).map (fun i : Nat => (i : Int) + 1) = _
  unfold ids
  congr 1
  exact List.filter_congr fun k hk => tm_bit S (List.mem_range.1 hk)
theorem cnt_ids (S : List (Option Vt)) : cnt (tm S) = (ids S).length := by rw [← lst_tm, lst_length]
/-- The votes, one by one, by who voted. -/
theorem fm_range (S : List (Option Vt)) : ∀ m, m ≤ S.length → (S.take m).filterMap id = ((List.range m).filter fun k => (S.getD k none).isSome).map fun k => (S.getD k none).getD zero := by
  intro m
  induction m with
  | zero => intro _; rfl
  | succ m ih =>
    intro hm
    have hx : S[m]? = some S[m] := List.getElem?_eq_getElem (by omega)
    have e0 : S.take (m + 1) = S.take m ++ [S[m]] := by rw [List.take_add_one, hx]; rfl
    have e1 : S.getD m none = S[m] := by rw [List.getD_eq_getElem?_getD, hx]; rfl
    rw [e0, List.filterMap_append, ih (by omega), List.range_succ, List.filter_append, List.map_append]
    congr 1
    cases ho : S[m] with
    | none =>
      rw [ho] at e1
      have q : ([m].filter fun k => (S.getD k none).isSome) = [] := by rw [List.filter_cons, e1]; rfl
      rw [q]; rfl
    | some v =>
      rw [ho] at e1
      have q : ([m].filter fun k => (S.getD k none).isSome) = [m] := by rw [List.filter_cons, e1]; rfl
      rw [q]
      show _ = [(S.getD m none).getD zero]
      rw [e1]; rfl
theorem got_ids (S : List (Option Vt)) (h7 : S.length = 7) : got S = (ids S).map fun i => (S.getD (i - 1).toNat none).getD zero := by
  have h := fm_range S 7 (by omega)
  rw [List.take_of_length_le (by omega)] at h
  show S.filterMap id = _
  rw [h]
  unfold ids
  rw [List.map_map]
  congr 1
  funext k
  simp only [Function.comp]
  rw [show ((k : Int) + 1 - 1).toNat = k by omega]
theorem got_len (S : List (Option Vt)) (h7 : S.length = 7) : (got S).length = cnt (tm S) := by rw [got_ids S h7, cnt_ids, List.length_map]
/-- The vote that the i-th who voted gave. -/
theorem got_at (S : List (Option Vt)) (h7 : S.length = 7) {i : Nat} {x : Int} (h : (lst (tm S))[i]? = some x) : ∃ k : Nat, k < 7 ∧ x = (k : Int) + 1 ∧ ∃ v, S[k]? = some (some v) ∧ (tab S)[k]? = some v ∧ (got S)[i]? = some v := by
  rw [lst_tm] at h
  have hm : x ∈ ids S := List.mem_of_getElem? h
  unfold ids at hm
  obtain ⟨k, hk, e⟩ := List.mem_map.1 hm
  obtain ⟨hk1, hk2⟩ := List.mem_filter.1 hk
  have hk7 := List.mem_range.1 hk1
  have hx : S[k]? = some (S.getD k none) := by rw [List.getD_eq_getElem?_getD, List.getElem?_eq_getElem (by omega)]; rfl
  obtain ⟨v, hv⟩ := Option.isSome_iff_exists.1 hk2
  rw [hv] at hx
  refine ⟨k, hk7, e.symm, v, hx, ?_, ?_⟩
  · unfold tab; rw [List.getElem?_map, hx]; rfl
  · rw [got_ids S h7, List.getElem?_map, h]
    show some ((S.getD (x - 1).toNat none).getD zero) = _
    rw [show (x - 1).toNat = k by omega, hv]; rfl
theorem tab_len (S : List (Option Vt)) : (tab S).length = S.length := List.length_map _
theorem tab_put (S : List (Option Vt)) (v : Vt) : tab (put S v) = (tab S).set (v.fr - 1).toNat v := by
  unfold tab put; rw [List.map_set]; rfl
theorem tab_none : tab none7 = List.replicate 7 zero := rfl
theorem run_nil : run [] = (zero, 0) := rfl
theorem run_snoc (l : List Vt) (x : Vt) : run (l ++ [x]) = step (run l) x := by unfold run; rw [List.foldl_append]; rfl
theorem run_take {l : List Vt} {i : Nat} {x : Vt} (h : l[i]? = some x) : run (l.take (i + 1)) = step (run (l.take i)) x := by
  rw [List.take_add_one, h]; exact run_snoc _ _

/-- The place of each vote. -/
def Pl (S : List (Option Vt)) : Prop := ∀ (k : Nat) (v : Vt), S[k]? = some (some v) → v.fr = (k : Int) + 1 ∧ v.es.length ≤ 60
theorem pl_none : Pl none7 := by
  intro k v h
  have := List.mem_of_getElem? h
  simp [none7] at this
theorem pl_put {S : List (Option Vt)} (h : Pl S) {v : Vt} (h1 : 1 ≤ v.fr) (hl : v.es.length ≤ 60) : Pl (put S v) := by
  intro k x hx
  unfold put at hx
  rw [List.getElem?_set] at hx
  split at hx
  · next e =>
    split at hx
    · have : x = v := by simpa using hx.symm
      subst this; exact ⟨by omega, hl⟩
    · cases hx
  · exact h k x hx
theorem log_sub : ∀ (es L : List Ent), (es.foldl PLog.add L).length = L.length + es.length → es.foldl PLog.add L = L ++ es := by
  intro es
  induction es with
  | nil => intro L _; simp
  | cons e r ih =>
    intro L h
    have hle : ∀ (es L : List Ent), (es.foldl PLog.add L).length ≤ L.length + es.length := by
      intro es
      induction es with
      | nil => intro L; simp
      | cons e r ih =>
        intro L
        have h1 := ih (PLog.add L e)
        have h2 : (PLog.add L e).length ≤ L.length + 1 := by unfold PLog.add; split <;> simp
        rw [List.foldl_cons, List.length_cons]; omega
    rw [List.foldl_cons] at h ⊢
    have h1 := hle r (PLog.add L e)
    rw [List.length_cons] at h
    by_cases hc : PLog.can L e = true
    · have ea : PLog.add L e = L ++ [e] := by unfold PLog.add; rw [if_pos hc]
      rw [ea] at h ⊢
      have el : (L ++ [e]).length = L.length + 1 := by simp
      rw [ih _ (by rw [el]; omega), List.append_assoc]; rfl
    · have ea : PLog.add L e = L := by unfold PLog.add; rw [if_neg hc]
      rw [ea] at h h1
      omega
theorem log_len_le (es : List Ent) : (PLog.log es).length ≤ es.length := by
  have hle : ∀ (es L : List Ent), (es.foldl PLog.add L).length ≤ L.length + es.length := by
    intro es
    induction es with
    | nil => intro L; simp
    | cons e r ih =>
      intro L
      have h1 := ih (PLog.add L e)
      have h2 : (PLog.add L e).length ≤ L.length + 1 := by unfold PLog.add; split <;> simp
      rw [List.foldl_cons, List.length_cons]; omega
  have := hle es []
  simpa [PLog.log] using this
theorem log_eq_of_len {es : List Ent} (h : (PLog.log es).length = es.length) : PLog.log es = es := log_sub es [] (by simpa [PLog.log] using h)
theorem good_from {view n : Int} {v : Vt} (h : good view n v = true) : 1 ≤ v.fr ∧ v.fr ≤ n := by
  unfold good at h; simp only [Bool.and_eq_true, decide_eq_true_eq] at h; exact h.1.1.1
theorem good_log {view n : Int} {v : Vt} (h : good view n v = true) : PLog.log v.es = v.es := by
  unfold good isLog at h; simp only [Bool.and_eq_true, decide_eq_true_eq] at h
  obtain ⟨⟨⟨_, _⟩, h⟩, _⟩ := h
  exact log_eq_of_len h
theorem good_com {view n : Int} {v : Vt} (h : good view n v = true) : 0 ≤ v.com ∧ v.com ≤ v.es.length := by
  unfold good at h; simp only [Bool.and_eq_true, decide_eq_true_eq] at h; exact h.2
theorem ok_good {view n : Int} {S : List (Option Vt)} {v : Vt} (h : ok view n S v = true) : good view n v = true := by
  unfold ok at h; rw [Bool.and_eq_true] at h; exact h.1
theorem ok_free {view n : Int} {S : List (Option Vt)} {v : Vt} (h : ok view n S v = true) : has (tm S) v.fr = false := by
  unfold ok at h; rw [Bool.and_eq_true] at h; simpa using h.2
theorem pl_add {view n : Int} {S : List (Option Vt)} (h : Pl S) (v : Vt) : Pl (add view n S v) := by
  unfold add; split
  · next hk => exact pl_put h (good_from (ok_good hk)).1 (by have := good_log (ok_good hk); rw [← this]; exact PLog.log_len _)
  · exact h

/-- The order in which votes come says nothing of the best one. -/
theorem step_comm (p : Vt × Int) (x y : Vt) (hx : 1 ≤ x.fr) (hy : 1 ≤ y.fr) (hxy : x.fr = y.fr → x = y) : step (step p x) y = step (step p y) x := by
  obtain ⟨b, c⟩ := p
  unfold step
  have e2 : max (max c x.com) y.com = max (max c y.com) x.com := by omega
  simp only [e2, Prod.mk.injEq, and_true]
  by_cases e : x = y
  · subst e; rfl
  have hne : x.fr ≠ y.fr := fun q => e (hxy q)
  simp only [pickB, better, decide_eq_true_eq]
  repeat' split
  all_goals first
    | rfl
    | (exfalso; omega)
theorem run_perm {l l' : List Vt} (h : l.Perm l') (h1 : ∀ x ∈ l, 1 ≤ x.fr) (hd : ∀ x ∈ l, ∀ y ∈ l, x.fr = y.fr → x = y) : run l = run l' :=
  h.foldl_eq' (fun x hx y hy z => step_comm z x y (h1 x hx) (h1 y hy) (hd x hx y hy)) _
/-- The document's way: from the first vote on, that one again. -/
def stepD (p : Vt × Int) (x : Vt) : Vt × Int := (if better x p.1 = true then x else p.1, max p.2 x.com)
theorem better_self (x : Vt) : better x x = false := by unfold better; exact decide_eq_false (by omega)
theorem runD_eq (a : Vt) (r : List Vt) (h : ∀ x ∈ a :: r, 1 ≤ x.fr) : (a :: r).foldl stepD (a, 0) = run (a :: r) := by
  have key : ∀ (l : List Vt) (p : Vt × Int), 1 ≤ p.1.fr → (∀ x ∈ l, 1 ≤ x.fr) → l.foldl stepD p = l.foldl step p := by
    intro l
    induction l with
    | nil => intro p _ _; rfl
    | cons x l ih =>
      intro p hp hl
      have hx := hl x (List.mem_cons_self ..)
      have e : stepD p x = step p x := by
        unfold stepD step pickB
        have : ¬ p.1.fr = 0 := by omega
        simp [this]
      rw [List.foldl_cons, List.foldl_cons, e]
      refine ih _ ?_ (fun y hy => hl y (List.mem_cons_of_mem _ hy))
      unfold step pickB
      simp only
      split
      · exact hx
      · exact hp
  have ha := h a (List.mem_cons_self ..)
  have e0 : stepD (a, 0) a = step (zero, 0) a := by
    unfold stepD step pickB
    have : better a (a, (0 : Int)).1 = false := better_self a
    rw [this, if_neg (by decide), if_pos (show (zero, (0 : Int)).1.fr = 0 ∨ _ from Or.inl rfl)]
  unfold run
  rw [List.foldl_cons, List.foldl_cons, e0]
  refine key r _ ?_ (fun y hy => h y (List.mem_cons_of_mem _ hy))
  unfold step pickB
  rw [if_pos (show (zero, (0 : Int)).1.fr = 0 ∨ _ from Or.inl rfl)]; exact ha

theorem pickB_le {b x : Vt} (hb : b.es.length ≤ 60) (hx : x.es.length ≤ 60) : (pickB b x).es.length ≤ 60 := by
  unfold pickB; split
  · exact hx
  · exact hb
theorem run_le : ∀ (l : List Vt), (∀ x ∈ l, x.es.length ≤ 60) → (run l).1.es.length ≤ 60 := by
  have key : ∀ (l : List Vt) (p : Vt × Int), p.1.es.length ≤ 60 → (∀ x ∈ l, x.es.length ≤ 60) → (l.foldl step p).1.es.length ≤ 60 := by
    intro l
    induction l with
    | nil => intro p h _; exact h
    | cons x l ih => intro p h hl; exact ih _ (pickB_le h (hl x (List.mem_cons_self ..))) (fun y hy => hl y (List.mem_cons_of_mem _ hy))
  exact fun l h => key l _ (by decide) h
/-- The document's votes, in the order in which they came. -/
structure Mt (L : List Vt) (S : List (Option Vt)) : Prop where
  len : S.length = 7
  pl : Pl S
  perm : (got S).Perm L
def tsum (L : List Vt) : Nat := (L.map fun v => 2 ^ (v.fr - 1).toNat).sum
theorem mt_none : Mt [] none7 := ⟨rfl, pl_none, List.Perm.refl _⟩
theorem got_put (S : List (Option Vt)) {k : Nat} (hk : k < S.length) (h : S.getD k none = none) (v : Vt) : (got (S.set k (some v))).Perm (v :: got S) := by
  have hx : S[k] = none := by rw [List.getD_eq_getElem?_getD, List.getElem?_eq_getElem hk] at h; simpa using h
  have e2 : S = S.take k ++ none :: S.drop (k + 1) := by
    have q := (List.take_append_drop k S).symm
    rw [List.drop_eq_getElem_cons hk, hx] at q
    exact q
  have e1 : S.set k (some v) = S.take k ++ some v :: S.drop (k + 1) := by rw [List.set_eq_take_append_cons_drop, if_pos hk]
  have q1 : got (S.set k (some v)) = (S.take k).filterMap id ++ v :: (S.drop (k + 1)).filterMap id := by
    unfold got; rw [e1, List.filterMap_append, List.filterMap_cons]; rfl
  have q2 : got S = (S.take k).filterMap id ++ (S.drop (k + 1)).filterMap id := by
    have := congrArg got e2
    rw [this]
    unfold got; rw [List.filterMap_append, List.filterMap_cons]; rfl
  rw [q1, q2]
  exact List.perm_middle
theorem free_at {view n : Int} {S : List (Option Vt)} {v : Vt} (h : ok view n S v = true) (hn : n ≤ 7) : ∃ k : Nat, k < 7 ∧ v.fr = (k : Int) + 1 ∧ S.getD k none = none := by
  have hf := good_from (ok_good h)
  refine ⟨(v.fr - 1).toNat, by omega, by omega, ?_⟩
  have := ok_free h
  rw [show v.fr = (((v.fr - 1).toNat : Nat) : Int) + 1 by omega, tm_has S (by omega)] at this
  simpa using this
theorem Mt.add {L : List Vt} {S : List (Option Vt)} (h : Mt L S) {view n : Int} {v : Vt} (hk : ok view n S v = true) (hn : n ≤ 7) : Mt (L ++ [v]) (add view n S v) := by
  obtain ⟨k, hk7, e, hnone⟩ := free_at hk hn
  have hadd : PVote.add view n S v = S.set k (some v) := by unfold PVote.add put; rw [if_pos hk]; congr 1; omega
  refine ⟨by rw [add_len, h.len], pl_add h.pl v, ?_⟩
  rw [hadd]
  refine (got_put S (by rw [h.len]; exact hk7) hnone v).trans ?_
  refine (List.Perm.cons v h.perm).trans ?_
  exact (List.perm_append_singleton v L).symm
theorem got_mem {S : List (Option Vt)} {v : Vt} (h : v ∈ got S) : ∃ k : Nat, S[k]? = some (some v) := by
  unfold got at h
  obtain ⟨o, ho, e⟩ := List.mem_filterMap.1 h
  have : o = some v := e
  subst this
  exact List.getElem?_of_mem ho
theorem Mt.ones {L : List Vt} {S : List (Option Vt)} (h : Mt L S) : ∀ x ∈ L, 1 ≤ x.fr ∧ x.fr ≤ 7 := by
  intro x hx
  obtain ⟨k, hk⟩ := got_mem (h.perm.mem_iff.2 hx)
  have h1 := (h.pl k x hk).1
  have h2 := (List.getElem?_eq_some_iff.1 hk).1
  have h3 := h.len
  omega
theorem Mt.run {L : List Vt} {S : List (Option Vt)} (h : Mt L S) : run (got S) = run L :=
  run_perm h.perm (fun x hx => (h.ones x (h.perm.mem_iff.1 hx)).1) (fun x hx y hy e => by
    obtain ⟨k, hk⟩ := got_mem hx
    obtain ⟨j, hj⟩ := got_mem hy
    have h1 := (h.pl k x hk).1
    have h2 := (h.pl j y hj).1
    have : k = j := by omega
    subst this
    rw [hk] at hj; simpa using hj)
theorem Mt.len_eq {L : List Vt} {S : List (Option Vt)} (h : Mt L S) : L.length = cnt (tm S) := by rw [← got_len S h.len]; exact h.perm.length_eq.symm
theorem Mt.le {L : List Vt} {S : List (Option Vt)} (h : Mt L S) : L.length ≤ 7 := by rw [h.len_eq]; exact cnt_le _
theorem tsum_snoc (L : List Vt) (v : Vt) : tsum (L ++ [v]) = tsum L + 2 ^ (v.fr - 1).toNat := by unfold tsum; simp
/-- The document's sum. -/
theorem add_wth (t : Nat) (ht : t < 128) (k : Nat) (hk : k < 7) (h : has t ((k : Int) + 1) = false) : t + 2 ^ k = wth t ((k : Int) + 1) := by
  unfold wth
  rw [one_in k hk]
  rw [has_in t k ht hk] at h
  have := all7 (fun t k => t.testBit k || (t + 2 ^ k == t ||| 2 ^ k)) (by decide +kernel) t k ht hk
  rw [h] at this
  simpa using this
theorem tsum_add {L : List Vt} {S : List (Option Vt)} (h7 : S.length = 7) (h : tsum L = tm S) {view n : Int} {v : Vt} (hk : ok view n S v = true) (hn : n ≤ 7) : tsum (L ++ [v]) = tm (add view n S v) := by
  obtain ⟨k, hk7, e, hnone⟩ := free_at hk hn
  have hf := good_from (ok_good hk)
  unfold add
  rw [if_pos hk, tm_put S h7 v hf.1 (by omega), tsum_snoc, h, e, show ((k : Int) + 1 - 1).toNat = k by omega]
  exact add_wth _ (tm_lt S) k hk7 (by rw [← e]; exact ok_free hk)

/-- The order in which they come, each of another one. -/
theorem add_comm {view n : Int} (hn : n ≤ 7) (S : List (Option Vt)) {x y : Vt} (hxy : x.fr = y.fr → x = y) : add view n (add view n S x) y = add view n (add view n S y) x := by
  by_cases e : x = y
  · subst e; rfl
  have hne : x.fr ≠ y.fr := fun q => e (hxy q)
  have key : ∀ (u v : Vt), u.fr ≠ v.fr → good view n v = true → good view n u = true → ok view n (put S u) v = ok view n S v := by
    intro u v hu hv hu2
    have h1 := good_from hv
    have h2 := good_from hu2
    unfold ok
    congr 2
    rw [show v.fr = (((v.fr - 1).toNat : Nat) : Int) + 1 by omega, tm_has _ (by omega), tm_has _ (by omega)]
    congr 1
    unfold put
    rw [getD_set, if_neg (fun q => hu (by omega))]
  cases gx : good view n x with
  | false =>
    have hx : ∀ S, add view n S x = S := fun S => by unfold add ok; rw [gx]; rfl
    rw [hx, hx]
  | true =>
    cases gy : good view n y with
    | false =>
      have hy : ∀ S, add view n S y = S := fun S => by unfold add ok; rw [gy]; rfl
      rw [hy, hy]
    | true =>
      have h1 := good_from gx
      have h2 := good_from gy
      have k1 := key x y hne gy gx
      have k2 := key y x (fun q => hne q.symm) gx gy
      unfold add
      cases ox : ok view n S x <;> cases oy : ok view n S y
      · simp [ox, oy]
      · simp [ox, oy, k2]
      · simp [ox, oy, k1]
      · simp only [if_true, k1, k2, ox, oy]
        unfold put
        exact List.set_comm _ _ (by omega)
def addL (view n : Int) (l : List Vt) : List (Option Vt) := l.foldl (add view n) none7
theorem addL_rev {view n : Int} (hn : n ≤ 7) (l : List Vt) (h : ∀ x ∈ l, ∀ y ∈ l, x.fr = y.fr → x = y) : addL view n l = addL view n l.reverse :=
  (List.reverse_perm l).symm.foldl_eq' (fun x hx y hy z => add_comm hn z (h x hx y hy)) _
theorem addL_take {view n : Int} {l : List Vt} {i : Nat} {x : Vt} (h : l[i]? = some x) : addL view n (l.take (i + 1)) = add view n (addL view n (l.take i)) x := by
  unfold addL; rw [List.take_add_one, h, List.foldl_append]; rfl
theorem foldl_addlen (view n : Int) : ∀ (l : List Vt) (S : List (Option Vt)), (l.foldl (add view n) S).length = S.length := by
  intro l
  induction l with
  | nil => intro S; rfl
  | cons x l ih => intro S; rw [List.foldl_cons, ih, add_len]
theorem addL_len (view n : Int) (l : List Vt) : (addL view n l).length = 7 := foldl_addlen view n l _
end PVote
end Go.Proofs.Ytheeigbljjcbpaa
