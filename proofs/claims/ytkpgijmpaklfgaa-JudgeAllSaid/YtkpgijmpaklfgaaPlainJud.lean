/- Plain mathematics of what judges: what is firm, told once, cast, what agrees. No program is named here. -/
import Derived.Test.YtkpgijmpaklfgaaPlainReady
namespace Go.Proofs.Ytkpgijmpaklfgaa
namespace PJud
open PEnt PReady

/-- Total, and Strong or Strict. -/
def isF (e : Ent) : Bool := decide (e.ord = 1) && (decide (e.lev = 1) || decide (e.lev = 2))
def firm (l : List Tl) : List Ent := (l.map (·.2)).filter isF
theorem firm_nil : firm [] = [] := rfl
theorem firm_snoc (l : List Tl) (t : Tl) : firm (l ++ [t]) = firm l ++ (if isF t.2 then [t.2] else []) := by
  unfold firm
  rw [List.map_append, List.filter_append]
  congr 1
  simp only [List.map_cons, List.map_nil, List.filter_cons, List.filter_nil]
theorem firm_app (l m : List Tl) : firm (l ++ m) = firm l ++ firm m := by
  unfold firm
  rw [List.map_append, List.filter_append]
theorem firm_len (l : List Tl) : (firm l).length ≤ l.length := by
  unfold firm
  exact Nat.le_trans (List.length_filter_le _ _) (by simp)
/-- The first n of both are one by one the same. -/
def eqN (a b : List Ent) (n : Nat) : Bool := eqL (a.take n) (b.take n)
theorem eqN_zero (a b : List Ent) : eqN a b 0 = true := by simp [eqN, eqL]
theorem eqN_succ {a b : List Ent} {n : Nat} {x y : Ent} (hx : a[n]? = some x) (hy : b[n]? = some y) : eqN a b (n + 1) = (eqN a b n && eqE x y) := by
  obtain ⟨hi, rfl⟩ := List.getElem?_eq_some_iff.1 hx
  obtain ⟨hj, rfl⟩ := List.getElem?_eq_some_iff.1 hy
  unfold eqN
  rw [Bool.eq_iff_iff, Bool.and_eq_true, eqL_iff, eqL_iff, eqE_iff]
  rw [← List.take_append_getElem hi, ← List.take_append_getElem hj]
  constructor
  · intro h
    have := List.append_inj' h rfl
    exact ⟨this.1, by simpa using this.2⟩
  · rintro ⟨h1, h2⟩
    rw [h1, h2]
theorem eqN_false {a b : List Ent} : ∀ {n m : Nat}, n ≤ m → m ≤ a.length → m ≤ b.length → eqN a b n = false → eqN a b m = false := by
  intro n m h ha hb hf
  cases he : eqN a b m with
  | false => rfl
  | true =>
    unfold eqN at he hf
    rw [eqL_iff] at he
    have : a.take n = b.take n := by
      have := congrArg (List.take n) he
      rwa [List.take_take, List.take_take, Nat.min_eq_left h] at this
    rw [(eqL_iff _ _).2 this] at hf
    cases hf
theorem eqN_comm (a b : List Ent) (n : Nat) : eqN a b n = eqN b a n := by
  unfold eqN
  rw [Bool.eq_iff_iff, eqL_iff, eqL_iff]
  exact eq_comm
theorem eqN_self (a : List Ent) (n : Nat) : eqN a a n = true := by
  unfold eqN
  rw [eqL_iff]

/-- What was put into a set, each once. -/
def ins (K : List Ent) (e : Ent) : List Ent := if K.any (fun x => eqE x e) then K else K ++ [e]
def dd (l : List Ent) : List Ent := l.foldl ins []
theorem dd_snoc (l : List Ent) (e : Ent) : dd (l ++ [e]) = ins (dd l) e := by unfold dd; rw [List.foldl_append]; rfl
theorem ins_any (K : List Ent) (e x : Ent) : (ins K e).any (fun y => eqE y x) = (K.any (fun y => eqE y x) || eqE e x) := by
  unfold ins
  split
  · next h =>
    cases hx : eqE e x with
    | false => rw [Bool.or_false]
    | true =>
      obtain rfl := (eqE_iff _ _).1 hx
      rw [h]
      rfl
  · rw [List.any_append]
    simp
theorem dd_any (l : List Ent) (x : Ent) : (dd l).any (fun y => eqE y x) = l.any (fun y => eqE y x) := by
  suffices h : ∀ (l K : List Ent), (l.foldl ins K).any (fun y => eqE y x) = (K.any (fun y => eqE y x) || l.any (fun y => eqE y x)) by
    rw [dd, h]
    rfl
  intro l
  induction l with
  | nil => intro K; simp
  | cons e r ih =>
    intro K
    rw [List.foldl_cons, ih, ins_any, List.any_cons, Bool.or_assoc]
theorem dd_len (l : List Ent) : (dd l).length ≤ l.length := by
  suffices h : ∀ (l K : List Ent), (l.foldl ins K).length ≤ K.length + l.length by
    have := h l []
    simpa [dd] using this
  intro l
  induction l with
  | nil => intro K; simp
  | cons e r ih =>
    intro K
    refine Nat.le_trans (ih _) ?_
    unfold ins
    split
    · simp
    · simp; omega
/-- The broadcast of an entry; an entry as it was cast. -/
def bo (e : Ent) : Ent := ⟨e.fr, e.boot, e.seq, 0, 0, 0, ByteArray.empty⟩
def un (e : Ent) : Ent := ⟨e.fr, e.boot, e.seq, e.ord, e.lev, 0, e.data⟩
theorem bo_eq (a b : Ent) : eqE (bo a) (bo b) = same a b := by
  simp [eqE, bo, same]
/-- No two are Same. -/
def apk (l : List Ent) (j : Nat) : Nat → Bool
  | 0 => true
  | k + 1 => apk l j k && !(match l[j]?, l[k]? with | some x, some y => same x y | _, _ => false)
def ap (l : List Ent) : Nat → Bool
  | 0 => true
  | i + 1 => ap l i && apk l i i
theorem apk_succ {l : List Ent} {j k : Nat} {x y : Ent} (hx : l[j]? = some x) (hy : l[k]? = some y) : apk l j (k + 1) = (apk l j k && !same x y) := by
  simp only [apk, hx, hy]
/-- What was told is told once. -/
def once (l : List Ent) : Bool := decide ((dd (l.map bo)).length = l.length)
theorem apk_any {l : List Ent} {j : Nat} {x : Ent} (hx : l[j]? = some x) : ∀ k, k ≤ l.length → apk l j k = !((l.take k).any (fun y => same y x))
  | 0, _ => by simp [apk]
  | k + 1, hk => by
    have hy : l[k]? = some l[k] := List.getElem?_eq_getElem (by omega)
    rw [apk_succ hx hy, apk_any hx k (by omega), ← List.take_append_getElem (by omega : k < l.length), List.any_append, same_comm x]
    simp
theorem once_ap (l : List Ent) : once l = ap l l.length := by
  suffices h : ∀ i, i ≤ l.length → ap l i = decide ((dd ((l.take i).map bo)).length = i) by
    rw [h _ (Nat.le_refl _), once, List.take_length]
  intro i
  induction i with
  | zero => intro _; simp [ap, dd]
  | succ i ih =>
    intro hi
    have hx : l[i]? = some l[i] := List.getElem?_eq_getElem (by omega)
    have hl := dd_len ((l.take i).map bo)
    rw [List.length_map, List.length_take, Nat.min_eq_left (by omega)] at hl
    rw [ap, ih (by omega), apk_any hx i (by omega), ← List.take_append_getElem (by omega : i < l.length), List.map_append, List.map_cons, List.map_nil, dd_snoc, ins, dd_any, List.any_map]
    have e1 : ((fun y => eqE y (bo l[i])) ∘ bo) = fun y => same y l[i] := by
      funext y
      exact bo_eq y l[i]
    rw [e1]
    cases (l.take i).any (fun y => same y l[i]) with
    | true =>
      simp only [Bool.not_true, Bool.and_false, if_true]
      symm
      rw [decide_eq_false_iff_not]
      omega
    | false =>
      simp only [Bool.not_false, Bool.and_true, Bool.false_eq_true, if_false, List.length_append, List.length_cons, List.length_nil]
      rw [decide_eq_decide]
      omega
theorem once_nil : once [] = true := rfl
/-- Fewer of those that are told once are told once. -/
theorem ap_take {l : List Ent} {n : Nat} : ∀ i, i ≤ n → ap (l.take n) i = ap l i := by
  have hk : ∀ j k, j < n → k ≤ j → apk (l.take n) j k = apk l j k := by
    intro j k hj
    induction k with
    | zero => intro _; rfl
    | succ k ih =>
      intro hk
      rw [apk, apk, ih (by omega), List.getElem?_take, List.getElem?_take, if_pos hj, if_pos (by omega)]
  intro i
  induction i with
  | zero => intro _; rfl
  | succ i ih =>
    intro hi
    rw [ap, ap, ih (by omega), hk i i (by omega) (Nat.le_refl _)]
theorem ap_less {l : List Ent} : ∀ {i m : Nat}, i ≤ m → ap l m = true → ap l i = true := by
  intro i m h
  induction m with
  | zero => intro hm; have : i = 0 := by omega
            rw [this]; rfl
  | succ m ih =>
    intro hm
    rw [ap, Bool.and_eq_true] at hm
    by_cases he : i = m + 1
    · rw [he, ap, hm.1, hm.2]; rfl
    · exact ih (by omega) hm.1
theorem once_take {l : List Ent} {n : Nat} (hn : n ≤ l.length) (h : once l = true) : once (l.take n) = true := by
  rw [once_ap] at h ⊢
  rw [List.length_take, Nat.min_eq_left hn, ap_take n (Nat.le_refl _)]
  exact ap_less hn h

/-- Each was cast. -/
def mt (c e : Ent) : Bool := same c e && decide (c.ord = e.ord) && decide (c.lev = e.lev) && (c.data.toList == e.data.toList)
theorem un_eq (a b : Ent) : eqE (un a) (un b) = mt a b := by
  simp only [eqE, un, mt, same]
  have h : ∀ x y : Int, (x == y) = decide (x = y) := fun x y => rfl
  simp [h, Bool.and_assoc]
def cast (l c : List Ent) : Bool := l.all fun e => c.any fun x => mt x e
theorem cast_un (l c : List Ent) : cast l c = l.all fun e => (dd (c.map un)).any fun x => eqE x (un e) := by
  unfold cast
  congr 1
  funext e
  rw [dd_any, List.any_map]
  congr 1
  funext x
  exact (un_eq x e).symm
def pfx (a b : List Tl) : Bool := eqN (firm a) (firm b) (min (firm a).length (firm b).length)
theorem prefix_comm (a b : List Tl) : pfx a b = pfx b a := by
  unfold pfx
  rw [eqN_comm, Nat.min_comm]
theorem prefix_take (l : List Tl) (n : Nat) : pfx (l.take n) l = true := by
  have e : firm l = firm (l.take n) ++ firm (l.drop n) := by rw [← firm_app, List.take_append_drop]
  unfold pfx eqN
  rw [eqL_iff, e]
  have hm : min (firm (l.take n)).length (firm (l.take n) ++ firm (l.drop n)).length = (firm (l.take n)).length := by
    rw [List.length_append]; omega
  rw [hm, List.take_length, List.take_left]
theorem prefix_self (l : List Tl) : pfx l l = true := by
  unfold pfx
  exact eqN_self _ _
theorem firm_sum (l : List Tl) (n : Nat) : (firm (l.take n)).length + (firm (l.drop n)).length = (firm l).length := by
  rw [← List.length_append, ← firm_app, List.take_append_drop]
/-- How many are held against one another. -/
def less (m : Int) (a : Nat) : Nat := (min m (a : Int)).toNat
def agree (a : List Ent) (m : Int) (b : List Ent) (n : Int) : Bool := eqN a b (min (less m a.length) (less n b.length))
theorem agree_comm (a : List Ent) (m : Int) (b : List Ent) (n : Int) : agree a m b n = agree b n a m := by
  unfold agree
  rw [eqN_comm, Nat.min_comm]
theorem agree_self (a : List Ent) (m n : Int) : agree a m a n = true := eqN_self _ _
end PJud
end Go.Proofs.Ytkpgijmpaklfgaa
