/- What waits till it stands fast, as plain data. No program is named here. -/
import Derived.Test.YtmlmngoieabjbaaPlainLog
namespace Go.Proofs.Ytmlmngoieabjbaa.PPend
open PEnt

/-- The entry with the next number; what is left of L when the entries l were heard. -/
def nxt (fr boot seq ord lev : Int) (d : ByteArray) : Ent := ⟨fr, boot, seq + 1, ord, lev, 0, d⟩
def left (l L : List Ent) : List Ent := L.filter (fun e => !PLog.has l e)
def zeros (n : Nat) : List Ent := List.replicate n ⟨0, 0, 0, 0, 0, 0, ⟨#[]⟩⟩
theorem left_le (l L : List Ent) : (left l L).length ≤ L.length := List.length_filter_le _ _
theorem left_nil (L : List Ent) : left [] L = L := List.filter_eq_self.2 fun e _ => by simp [PLog.has]

/-- In place: V is W, where the first j were read and those of them that stay stand at the head. -/
structure Mid (p : Ent → Bool) (W V : List Ent) (i j : Nat) : Prop where
  len : V.length = W.length
  lt : i < j
  le : j ≤ W.length
  head : V.take i = (W.take j).filter (fun e => !p e)
  tail : V.drop j = W.drop j
theorem Mid.first {p : Ent → Bool} {W : List Ent} {i : Nat} (hi : i < W.length) (ha : (W.take i).any p = false) (hp : W[i]?.map p = some true) : Mid p W W i (i + 1) := by
  refine ⟨rfl, by omega, by omega, ?_, rfl⟩
  have he : W[i]? = some W[i] := List.getElem?_eq_getElem hi
  rw [he] at hp
  rw [List.take_add_one, he, List.filter_append]
  have h1 : (W.take i).filter (fun e => !p e) = W.take i := List.filter_eq_self.2 fun e hm => by
    rw [List.any_eq_false] at ha
    simpa using ha e hm
  have h2 : ([W[i]] : List Ent).filter (fun e => !p e) = [] := by simp at hp ⊢; exact hp
  rw [h1]; simp [h2]
theorem Mid.at {p : Ent → Bool} {W V : List Ent} {i j : Nat} (h : Mid p W V i j) {x : Ent} (hx : W[j]? = some x) : V[j]? = some x := by
  have := congrArg (fun l => l[0]?) h.tail
  simpa [hx] using this
theorem Mid.skip {p : Ent → Bool} {W V : List Ent} {i j : Nat} (h : Mid p W V i j) {x : Ent} (hx : W[j]? = some x) (hp : p x = true) : Mid p W V i (j + 1) := by
  have hj : j < W.length := (List.getElem?_eq_some_iff.1 hx).1
  refine ⟨h.len, by have := h.lt; omega, by omega, ?_, ?_⟩
  · rw [h.head, List.take_add_one, hx, List.filter_append]; simp [hp]
  · rw [← List.drop_drop, h.tail, List.drop_drop]
theorem Mid.keep {p : Ent → Bool} {W V : List Ent} {i j : Nat} (h : Mid p W V i j) {x : Ent} (hx : W[j]? = some x) (hp : p x = false) : Mid p W (V.set i x) (i + 1) (j + 1) := by
  have hj : j < W.length := (List.getElem?_eq_some_iff.1 hx).1
  have hl := h.len
  have hlt := h.lt
  refine ⟨by simp [hl], by omega, by omega, ?_, ?_⟩
  · rw [List.take_add_one, List.getElem?_set_self (by omega), List.take_set_of_le (Nat.le_refl _), h.head, List.take_add_one, hx, List.filter_append]; simp [hp]
  · rw [List.drop_set_of_lt (by omega), ← List.drop_drop, h.tail, List.drop_drop]
theorem Mid.end {p : Ent → Bool} {W V : List Ent} {i n : Nat} (h : Mid p W V i n) : i = ((W.take n).filter (fun e => !p e)).length := by
  have := congrArg List.length h.head
  rw [List.length_take, Nat.min_eq_left (by have := h.len; have := h.lt; have := h.le; omega)] at this
  exact this

/-- Entries of one process and start, each with the next number: n of them behind lo. -/
def one (fr boot k : Int) : Ent := ⟨fr, boot, k, 1, 1, 0, ⟨#[120]⟩⟩
def run (fr boot lo : Int) : Nat → List Ent
  | 0 => []
  | n + 1 => one fr boot (lo + 1) :: run fr boot (lo + 1) n
theorem run_length (fr boot : Int) : ∀ (n : Nat) (lo : Int), (run fr boot lo n).length = n
  | 0, _ => rfl
  | n + 1, lo => by rw [run, List.length_cons, run_length fr boot n]
theorem run_add (fr boot : Int) : ∀ (n : Nat) (lo : Int), run fr boot lo n ++ [one fr boot (lo + n + 1)] = run fr boot lo (n + 1)
  | 0, lo => by simp [run]
  | n + 1, lo => by
    rw [run, List.cons_append, show lo + ((n + 1 : Nat) : Int) + 1 = (lo + 1) + n + 1 by omega, run_add fr boot n (lo + 1)]; rfl
theorem run_past (fr boot : Int) : ∀ (n : Nat) (lo k : Int), k ≤ lo → left [one fr boot k] (run fr boot lo n) = run fr boot lo n
  | 0, _, _, _ => rfl
  | n + 1, lo, k, h => by
    unfold left
    rw [run, List.filter_cons_of_pos (by simp [PLog.has, same, one]; omega)]
    congr 1
    exact run_past fr boot n (lo + 1) k (by omega)
theorem run_head (fr boot lo : Int) (n : Nat) : left [one fr boot (lo + 1)] (run fr boot lo (n + 1)) = run fr boot (lo + 1) n := by
  unfold left
  rw [run, List.filter_cons_of_neg (by simp [PLog.has, same, one])]
  exact run_past fr boot n (lo + 1) (lo + 1) (Int.le_refl _)
theorem one_may {fr boot k : Int} (h1 : 1 ≤ fr) (h2 : fr ≤ 7) (h3 : 1 ≤ boot) (h4 : boot ≤ 1099511627776) (h5 : 1 ≤ k) (h6 : k ≤ 1099511627776) : may (one fr boot k) = true := by
  rw [may_iff]
  exact ⟨⟨h1, h2⟩, ⟨h3, h4⟩, ⟨h5, h6⟩, ⟨show (0 : Int) ≤ 1 by decide, show (1 : Int) ≤ 2 by decide⟩, ⟨show (0 : Int) ≤ 1 by decide, show (1 : Int) ≤ 2 by decide⟩, ⟨show (0 : Int) ≤ 0 by decide, show (0 : Int) ≤ 1099511627776 by decide⟩, show (⟨#[120]⟩ : ByteArray).size ≤ 16 by decide⟩
end Go.Proofs.Ytmlmngoieabjbaa.PPend
