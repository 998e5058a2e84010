/- An int's cells in the program. -/
import Derived.Test.YtnpobagipgephaaRows
import Derived.Test.YtnpobagipgephaaKit
namespace Go.Proofs.Ytnpobagipgephaa
open Go.RowKit

theorem int_info : (Try.prog.info? 3).map (fun i => (i.zero, i.size, i.bytes)) = some (some (.int .i64 0), 1, 8) := by kernel_rfl

/-- Ints, as cells. -/
def is (l : List Int) : List Value := l.map (Value.int .i64)
theorem is_length (l : List Int) : (is l).length = l.length := by simp [is]
theorem is_append (l m : List Int) : is (l ++ m) = is l ++ is m := by simp [is]
theorem is_one (l : List Int) : ∀ u ∈ is l, u.oneCell' = true := ints_oneCell .i64 l
theorem is_getD (l : List Int) (i : Nat) (h : i < l.length) : (is l).getD i undef = .int .i64 (l.getD i 0) := by
  simp [is, List.getD, List.getElem?_map, List.getElem?_eq_getElem h]
theorem is_take (l : List Int) (i : Nat) : is (l.take i) = (is l).take i := by simp [is]
theorem is_drop (l : List Int) (i : Nat) : is (l.drop i) = (is l).drop i := by simp [is]
theorem Rd.ilen {w : World} {B : Nat} {A : Option Addr} {c n : Nat} {l : List Int} (h : Rd w B A c 1 n (is l)) : l.length = n := by
  have := h.len; rw [is_length] at this; omega
theorem Rd.int {w : World} {B : Nat} {A : Option Addr} {c n : Nat} {l : List Int} (h : Rd w B A c 1 n (is l)) {i : Nat} (hi : i < n) :
    ∃ b o x, A = some ⟨b, o, none⟩ ∧ w.cell? ⟨b, o + i, none⟩ = some (.int .i64 x) ∧ l.drop i = x :: l.drop (i + 1) ∧ x = l.getD i 0 := by
  have hl : i < l.length := by have := h.ilen; omega
  obtain ⟨b, o, hA, _, hc⟩ := h.at_ hi
  refine ⟨b, o, l[i], hA, ?_, List.drop_eq_getElem_cons hl, by simp [List.getD, List.getElem?_eq_getElem hl]⟩
  rw [hc, is_getD _ _ hl]
  simp [List.getD, List.getElem?_eq_getElem hl]

end Go.Proofs.Ytnpobagipgephaa
