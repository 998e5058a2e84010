/- Plain mathematics of rows of so many cells each. No program is named here. -/
import Derived.Lib.Hide
namespace Go.Proofs.Ytnpobagipgephaa

section
variable {α β : Type} {f : α → List β} {k : Nat}
/-- Rows of so many cells each, one behind the other. -/
theorem rows_len (hf : ∀ a, (f a).length = k) (l : List α) : (l.flatMap f).length = l.length * k := by
  induction l with
  | nil => simp
  | cons a r ih => rw [List.flatMap_cons, List.length_append, hf, ih, List.length_cons, Nat.add_mul]; omega
theorem rows_drop (hf : ∀ a, (f a).length = k) (l : List α) : ∀ i, (l.flatMap f).drop (i * k) = (l.drop i).flatMap f := by
  induction l with
  | nil => intro i; simp
  | cons a r ih =>
    intro i
    cases i with
    | zero => simp
    | succ i =>
      rw [List.flatMap_cons, show (i + 1) * k = (f a).length + i * k by rw [hf, Nat.add_mul]; omega, ← List.drop_drop, List.drop_left, ih, List.drop_succ_cons]
theorem rows_take (hf : ∀ a, (f a).length = k) (l : List α) : ∀ i, (l.flatMap f).take (i * k) = (l.take i).flatMap f := by
  induction l with
  | nil => intro i; simp
  | cons a r ih =>
    intro i
    cases i with
    | zero => simp
    | succ i =>
      rw [List.flatMap_cons, show (i + 1) * k = (f a).length + i * k by rw [hf, Nat.add_mul]; omega, List.take_add, List.take_left, List.drop_left, ih, List.take_succ_cons, List.flatMap_cons]
theorem rows_at (hf : ∀ a, (f a).length = k) {l : List α} {i : Nat} {a : α} (h : l[i]? = some a) {j : Nat} (hj : j < k) : (l.flatMap f)[i * k + j]? = (f a)[j]? := by
  obtain ⟨hi, he⟩ := List.getElem?_eq_some_iff.1 h
  have h1 := rows_drop hf l i
  rw [List.drop_eq_getElem_cons hi, he] at h1
  have h3 := congrArg (fun q => q[j]?) h1
  simp only [List.getElem?_drop] at h3
  rw [h3, List.flatMap_cons, List.getElem?_append_left (by rw [hf]; exact hj)]
end
end Go.Proofs.Ytnpobagipgephaa
