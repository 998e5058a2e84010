/- TableOrder as plain data: names that come in any order. -/
import Derived.Test.YtapleleaogjcjaaDoorPlainTabL
import Derived.Test.YtapleleaogjcjaaDoorStrs
namespace Go.Proofs.YtapleleaogjcjaaDoor.PTab
open Go.RowKit PNum

theorem srt_ext {L M : List Pr} (hL : Srt L) (hM : Srt M) (h : ∀ k, get L k = get M k) : L = M := by
  have nd : ∀ {X : List Pr}, Srt X → X.Nodup := fun hX => hX.imp fun {p q} hl he => by
    rw [he, lt_irrefl] at hl; cases hl
  have mem : ∀ {X Y : List Pr}, Srt X → (∀ k, get X k = get Y k) → ∀ p ∈ X, p ∈ Y := fun hX hk p hp => by
    have h1 := get_of_mem hX hp
    rw [hk] at h1
    exact get_mem h1
  have hp : L.Perm M := (List.perm_ext_iff_of_nodup (nd hL) (nd hM)).2 fun p => ⟨mem hL h p, mem hM (fun k => (h k).symm) p⟩
  exact List.Perm.eq_of_pairwise (le := fun p q : Pr => lt p.1 q.1 = true) (fun p q _ _ h1 h2 => by
    have := lt_trans h1 h2
    rw [lt_irrefl] at this; cases this) hL hM hp

/-- Is it among them? -/
def isIn (N : List ByteArray) (a : ByteArray) : Bool := N.any (fun b => eqb b a)
theorem isIn_iff {N : List ByteArray} {a : ByteArray} : isIn N a = true ↔ a ∈ N := by
  unfold isIn
  rw [List.any_eq_true]
  exact ⟨fun ⟨b, hb, he⟩ => by rw [← eqb_iff.1 he]; exact hb, fun h => ⟨a, h, eqb_self a⟩⟩
theorem isIn_snoc (N : List ByteArray) (b a : ByteArray) : isIn (N ++ [b]) a = (isIn N a || eqb b a) := by simp [isIn]
theorem isIn_rev (N : List ByteArray) (a : ByteArray) : isIn N.reverse a = isIn N a := by simp [isIn]

/-- What names come to, each of them standing for v. -/
def tab (v : ByteArray) (N : List ByteArray) : List Pr := N.foldl (fun L a => ins a v L (decide (v.size = 0))) []
theorem tab_snoc (v : ByteArray) (N : List ByteArray) (a : ByteArray) : tab v (N ++ [a]) = ins a v (tab v N) (decide (v.size = 0)) := by simp [tab]
theorem tab_srt (v : ByteArray) (N : List ByteArray) : Srt (tab v N) := by
  suffices h : ∀ (N : List ByteArray) (L : List Pr), Srt L → Srt (N.foldl (fun L a => ins a v L (decide (v.size = 0))) L) from h N [] List.Pairwise.nil
  intro N
  induction N with
  | nil => intro L h; exact h
  | cons a r ih => intro L h; exact ih _ (srt_ins a v h _)
theorem get_fold (v : ByteArray) (hv : v.size ≠ 0) (k : ByteArray) : ∀ (N : List ByteArray) (L : List Pr), Srt L → get (N.foldl (fun L a => ins a v L (decide (v.size = 0))) L) k = if isIn N k = true then some v else get L k
  | [], L, _ => by simp [isIn]
  | a :: r, L, h => by
    have e : isIn (a :: r) k = (eqb a k || isIn r k) := rfl
    rw [List.foldl_cons, get_fold v hv k r _ (srt_ins a v h _), get_ins a v k h, decide_eq_false hv, e]
    cases isIn r k <;> cases eqb a k <;> simp
theorem tab_get (v : ByteArray) (hv : v.size ≠ 0) (k : ByteArray) (N : List ByteArray) : get (tab v N) k = if isIn N k = true then some v else none := get_fold v hv k N [] List.Pairwise.nil
theorem tab_empty (v : ByteArray) (hv : v.size = 0) (N : List ByteArray) : tab v N = [] := by
  unfold tab
  rw [decide_eq_true hv]
  induction N with
  | nil => rfl
  | cons a r ih => simp only [List.foldl_cons]; rw [show ins a v [] true = [] from rfl]; exact ih
theorem tab_rev (v : ByteArray) (N : List ByteArray) : tab v N.reverse = tab v N := by
  by_cases hv : v.size = 0
  · rw [tab_empty v hv, tab_empty v hv]
  · exact srt_ext (tab_srt v _) (tab_srt v _) fun k => by rw [tab_get v hv, tab_get v hv, isIn_rev]
theorem tab_len (v : ByteArray) (hv : v.size ≠ 0) (N : List ByteArray) (hN : N.Nodup) : (tab v N).length = N.length := by
  have nd : ((tab v N).map (·.1)).Nodup := List.pairwise_map.2 ((tab_srt v N).imp fun {p q} hl he => by
    rw [he, lt_irrefl] at hl; cases hl)
  have hp : ((tab v N).map (·.1)).Perm N := (List.perm_ext_iff_of_nodup nd hN).2 fun k => by
    rw [← isSome_iff (tab_srt v N), tab_get v hv, ← isIn_iff]
    cases isIn N k <;> simp
  simpa using hp.length_eq

/-- A name that may be. -/
structure Gd (a : ByteArray) : Prop where
  pos : 0 < a.size
  le : a.size ≤ 8
  no : ∀ k : Nat, a.data.toList[k]? ≠ some 61
theorem eqAt_app : ∀ {l m : List UInt8}, (∀ k : Nat, l[k]? ≠ some 61) → eqAt (l ++ 61 :: m) = some l.length
  | [], m, _ => by simp [eqAt]
  | b :: r, m, h => by
    have h0 := h 0
    simp at h0
    have := eqAt_app (l := r) (m := m) (fun k => by have := h (k + 1); simpa using this)
    simp [eqAt, h0, this]
theorem word_name {a : ByteArray} (h : Gd a) (v : ByteArray) : word (a ++ ⟨#[61]⟩ ++ v) = some (a, v) := by
  have hd : (a ++ ⟨#[61]⟩ ++ v : ByteArray).data.toList = a.data.toList ++ 61 :: v.data.toList := by simp
  have hl : a.data.toList.length = a.size := by rw [Array.length_toList]; rfl
  obtain ⟨i, hi⟩ : ∃ i, a.size = i + 1 := ⟨a.size - 1, by have := h.pos; omega⟩
  have hs : (a ++ ⟨#[61]⟩ ++ v : ByteArray).size = i + 1 + 1 + v.size := by
    rw [ByteArray.size_append, ByteArray.size_append, hi]; rfl
  unfold word
  rw [hd, eqAt_app h.no, hl, hi]
  show some ((a ++ ⟨#[61]⟩ ++ v : ByteArray).extract 0 (i + 1), (a ++ ⟨#[61]⟩ ++ v : ByteArray).extract (i + 2) (a ++ ⟨#[61]⟩ ++ v : ByteArray).size) = _
  have e1 : (a ++ ⟨#[61]⟩ ++ v : ByteArray).extract 0 (i + 1) = a := data_inj (by
    rw [ByteArray.data_extract, Array.toList_extract, List.extract_eq_take_drop, hd, List.drop_zero, Nat.sub_zero, List.take_append_of_le_length (by omega), List.take_of_length_le (by omega)])
  have e2 : (a ++ ⟨#[61]⟩ ++ v : ByteArray).extract (i + 2) (a ++ ⟨#[61]⟩ ++ v : ByteArray).size = v := data_inj (by
    rw [ByteArray.data_extract, Array.toList_extract, List.extract_eq_take_drop, hd, hs]
    rw [List.drop_append, List.drop_eq_nil_of_le (by omega), hl, hi, show i + 2 - (i + 1) = 1 by omega]
    simp only [List.nil_append, List.drop_succ_cons, List.drop_zero]
    exact List.take_of_length_le (by rw [Array.length_toList]; show v.size ≤ _; omega))
  rw [e1, e2]
theorem doo_name {L : List Pr} {a v : ByteArray} (h : Gd a) (hv : v.size ≤ 5) : did (entS 1 (a ++ ⟨#[61]⟩ ++ v)) = true ∧ doo L (entS 1 (a ++ ⟨#[61]⟩ ++ v)) = ins a v L (decide (v.size = 0)) := by
  have hz : (a ++ ⟨#[61]⟩ ++ v : ByteArray).size ≤ 16 := by
    have := h.le
    rw [ByteArray.size_append, ByteArray.size_append]
    show a.size + 1 + v.size ≤ 16
    omega
  exact doo_some (L := L) (e := entS 1 (a ++ (⟨#[61]⟩ : ByteArray) ++ v)) (word_name h v) (may_entS (by decide) (by decide) hz)
theorem name_size {a v : ByteArray} (h : Gd a) (hv : v.size ≤ 5) : (a ++ ⟨#[61]⟩ ++ v : ByteArray).size ≤ 1000000 := by
  have := h.le
  rw [ByteArray.size_append, ByteArray.size_append]
  show a.size + 1 + v.size ≤ _
  omega
theorem rev_at {N : List ByteArray} {i m : Nat} (hm : N.length = m) (hi : i < m) {a : ByteArray} (h : N[m - 1 - i]? = some a) : N.reverse.take (i + 1) = N.reverse.take i ++ [a] := by
  have h2 : N.reverse[i]? = some a := by
    rw [List.getElem?_reverse (by omega), hm]; exact h
  obtain ⟨hi', rfl⟩ := List.getElem?_eq_some_iff.1 h2
  exact List.take_succ_eq_append_getElem hi'
theorem take_at {N : List ByteArray} {i : Nat} {a : ByteArray} (h : N[i]? = some a) : N.take (i + 1) = N.take i ++ [a] := by
  obtain ⟨hi', rfl⟩ := List.getElem?_eq_some_iff.1 h
  exact List.take_succ_eq_append_getElem hi'
/-- Is '=' among the first bytes? -/
def has61 (l : List UInt8) : Bool := l.any (· == 61)
theorem has61_take {l : List UInt8} {i : Nat} {c : UInt8} (h : l[i]? = some c) : has61 (l.take (i + 1)) = (has61 (l.take i) || c == 61) := by
  obtain ⟨hi', rfl⟩ := List.getElem?_eq_some_iff.1 h
  unfold has61; rw [List.take_succ_eq_append_getElem hi', List.any_append]; simp
theorem has61_no {l : List UInt8} (h : has61 l = false) (k : Nat) : l[k]? ≠ some 61 := by
  intro hk
  have : has61 l = true := List.any_eq_true.2 ⟨61, List.mem_of_getElem? hk, rfl⟩
  rw [h] at this; cases this
end Go.Proofs.YtapleleaogjcjaaDoor.PTab
