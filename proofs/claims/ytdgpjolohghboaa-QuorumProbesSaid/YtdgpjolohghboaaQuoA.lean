/- Contracts: slices.Sort of a whole array, reached; of []int, []int64. -/
import Derived.Test.YtdgpjolohghboaaQuo
import Derived.Test.YtdgpjolohghboaaLayQ
import Derived.Shelf.SortM.Plain
import Derived.Sort.OwnSortedInts
namespace Go.Proofs.Ytdgpjolohghboaa
open Go.RowKit PQuo

theorem putCells_all (S l : List Int) (h : S.length = l.length) : Sort.putCells (Value.int .i64) 0 S.toArray (is l).toArray = (is S).toArray := by
  apply Array.ext_getElem?
  intro j
  by_cases hj : j < S.length
  · have h1 : (is l)[j]? = some (.int .i64 l[j]) := by
      simp [is, List.getElem?_eq_getElem (show j < l.length by omega)]
    have h2 : (is S)[j]? = some (.int .i64 S[j]) := by
      simp [is, List.getElem?_eq_getElem hj]
    simp only [Sort.putCells, Array.getElem?_mapIdx, List.getElem?_toArray, h1, h2, Option.map_some, List.size_toArray]
    rw [if_pos ⟨Nat.zero_le _, by omega⟩]
    simp [hj]
  · have h1 : (is l)[j]? = none := List.getElem?_eq_none (by rw [is_length]; omega)
    have h2 : (is S)[j]? = none := List.getElem?_eq_none (by rw [is_length]; omega)
    simp only [Sort.putCells, Array.getElem?_mapIdx, List.getElem?_toArray, h1, h2, Option.map_none]
theorem sort_done (w : World) (g : Nat) (T : TypeId) (l : List Int) (hB : Blk w g T (is l)) (f : FuncId)
    (key : Calls Try.prog f #[.slice (some ⟨g, 0, none⟩) l.length l.length] w fun e w' => e = .returned (.tuple #[]) ∧ ∃ n os, w' = Sort.grow (Sort.putRow (Value.int .i64) (Sort.ahead w n) g 0 (l.mergeSort fun x y => decide (x ≤ y)).toArray) os) :
    Calls Try.prog f #[.slice (some ⟨g, 0, none⟩) l.length l.length] w fun e w' => e = .returned (.tuple #[]) ∧ ∃ S, S.Perm l ∧ S.Pairwise (· ≤ ·) ∧ Blk w' g T (is S) ∧ Touch [g] w w' := by
  refine key.mono ?_
  rintro e w' ⟨he, k, os, rfl⟩
  have hlen := List.length_mergeSort (le := fun x y : Int => decide (x ≤ y)) l
  have hp := List.pairwise_mergeSort (le := fun x y : Int => decide (x ≤ y)) (fun a b c h1 h2 => by simp at h1 h2 ⊢; omega) (fun a b => by simp; omega) l
  have hq := heap_sortedI (n := k) (os := os) (l.mergeSort fun x y => decide (x ≤ y)).toArray hB
  rw [putCells_all _ _ hlen] at hq
  exact ⟨he, _, List.mergeSort_perm l _, hp.imp (fun h => by simpa using h), hq, Touch.of_grown (grownBy_sortedI _)⟩
theorem sortI_c (w : World) (g : Nat) (T : TypeId) (l : List Int) (hl : l.length = 7) (hB : Blk w g T (is l)) :
    Calls Try.prog 34 #[.slice (some ⟨g, 0, none⟩) 7 7] w fun e w' => e = .returned (.tuple #[]) ∧ ∃ S, S.Perm l ∧ S.Pairwise (· ≤ ·) ∧ Blk w' g T (is S) ∧ Touch [g] w w' := by
  have ht : (is l).toArray.toList.take l.length = l.map (Value.int .i64) := by
    rw [List.toList_toArray, List.take_of_length_le (by rw [is_length]; omega)]; rfl
  have key := AnyM.slices_Sort_int laySortI g 0 l.length l w (holds_of_blockI hB ht) hB.lt (by omega)
  rw [← hl]
  exact sort_done w g T l hB _ key
theorem sortL_c (w : World) (g : Nat) (T : TypeId) (l : List Int) (hl : l.length = 7) (hB : Blk w g T (is l)) :
    Calls Try.prog 35 #[.slice (some ⟨g, 0, none⟩) 7 7] w fun e w' => e = .returned (.tuple #[]) ∧ ∃ S, S.Perm l ∧ S.Pairwise (· ≤ ·) ∧ Blk w' g T (is S) ∧ Touch [g] w w' := by
  have ht : (is l).toArray.toList.take l.length = l.map (Value.int .i64) := by
    rw [List.toList_toArray, List.take_of_length_le (by rw [is_length]; omega)]; rfl
  have key := AnyM.slices_Sort_int laySortL g 0 l.length l w (holds_of_blockI hB ht) hB.lt (by omega)
  rw [← hl]
  exact sort_done w g T l hB _ key

theorem reachI_c (w : World) (l : List Int) (n : Int) (hl : l.length = 7) (h3 : 3 ≤ n) (h7 : n ≤ 7) :
    Calls Try.prog 28 #[.agg (is l).toArray, .int .i64 n] w fun e w' => ∃ r, e = .returned (.int .i64 r) ∧ IsR l n r ∧ Below w.heap.size w w' := by
  obtain ⟨l0, l1, l2, l3, l4, l5, l6, rfl⟩ := seven l hl
  obtain ⟨q, hq⟩ : ∃ q : Nat, Int.tdiv n 2 = (q : Int) := ⟨(n / 2).toNat, by rw [Int.tdiv_eq_ediv_of_nonneg (by omega)]; omega⟩
  have hq1 : (q : Int) = n / 2 := by rw [← hq, Int.tdiv_eq_ediv_of_nonneg (by omega)]
  have hq3 : q ≤ 3 := by omega
  have HQ := Lib.hid hq1
  clear hq1 hl
  show Calls _ _ #[.agg #[.int .i64 l0, .int .i64 l1, .int .i64 l2, .int .i64 l3, .int .i64 l4, .int .i64 l5, .int .i64 l6], _] _ _
  have K0 := Lib.hid (Blk.new w #[.int .i64 l0, .int .i64 l1, .int .i64 l2, .int .i64 l3, .int .i64 l4, .int .i64 l5, .int .i64 l6] 49)
  go_enter Try.func28, Try.ntmps28
  go_wp2_with fail
  refine (sortI_c _ _ 49 [l0, l1, l2, l3, l4, l5, l6] rfl K0.out).mono ?_
  rintro e w1 ⟨rfl, S, hp, hs, hB, ht⟩
  have hR := of_sorted hp hs rfl n (6 - q) (by have := HQ.out; omega) (by omega)
  have hSl : S.length = 7 := hp.length_eq
  have cc := hB.cell (i := 6 - q) (is_get S (by omega))
  have B1 := Lib.hid (show Below w.heap.size w w1 from ((Below.refl w.heap.size w).alloc (Nat.le_refl _) _).trans (ht.below (by simp) (by simp)))
  have HR := Lib.hid hR
  clear hp hs hR ht hB hSl
  generalize S.getD (6 - q) 0 = r at *
  go_wp2_with fail
  go_ret
  exact ⟨r, rfl, HR.out, B1.out⟩
theorem reachL_c (w : World) (l : List Int) (n : Int) (hl : l.length = 7) (h3 : 3 ≤ n) (h7 : n ≤ 7) :
    Calls Try.prog 29 #[.agg (is l).toArray, .int .i64 n] w fun e w' => ∃ r, e = .returned (.int .i64 r) ∧ IsR l n r ∧ Below w.heap.size w w' := by
  obtain ⟨l0, l1, l2, l3, l4, l5, l6, rfl⟩ := seven l hl
  obtain ⟨q, hq⟩ : ∃ q : Nat, Int.tdiv n 2 = (q : Int) := ⟨(n / 2).toNat, by rw [Int.tdiv_eq_ediv_of_nonneg (by omega)]; omega⟩
  have hq1 : (q : Int) = n / 2 := by rw [← hq, Int.tdiv_eq_ediv_of_nonneg (by omega)]
  have hq3 : q ≤ 3 := by omega
  have HQ := Lib.hid hq1
  clear hq1 hl
  show Calls _ _ #[.agg #[.int .i64 l0, .int .i64 l1, .int .i64 l2, .int .i64 l3, .int .i64 l4, .int .i64 l5, .int .i64 l6], _] _ _
  have K0 := Lib.hid (Blk.new w #[.int .i64 l0, .int .i64 l1, .int .i64 l2, .int .i64 l3, .int .i64 l4, .int .i64 l5, .int .i64 l6] 50)
  go_enter Try.func29, Try.ntmps29
  go_wp2_with fail
  refine (sortL_c _ _ 50 [l0, l1, l2, l3, l4, l5, l6] rfl K0.out).mono ?_
  rintro e w1 ⟨rfl, S, hp, hs, hB, ht⟩
  have hR := of_sorted hp hs rfl n (6 - q) (by have := HQ.out; omega) (by omega)
  have hSl : S.length = 7 := hp.length_eq
  have cc := hB.cell (i := 6 - q) (is_get S (by omega))
  have B1 := Lib.hid (show Below w.heap.size w w1 from ((Below.refl w.heap.size w).alloc (Nat.le_refl _) _).trans (ht.below (by simp) (by simp)))
  have HR := Lib.hid hR
  clear hp hs hR ht hB hSl
  generalize S.getD (6 - q) 0 = r at *
  go_wp2_with fail
  go_ret
  exact ⟨r, rfl, HR.out, B1.out⟩
end Go.Proofs.Ytdgpjolohghboaa
