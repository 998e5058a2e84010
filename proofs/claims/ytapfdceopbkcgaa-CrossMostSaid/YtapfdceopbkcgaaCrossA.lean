/- The library's sort, search of a sorted row, Search and IndexFunc, of int64s. -/
import Derived.Test.YtapfdceopbkcgaaPairs
import Derived.Test.YtapfdceopbkcgaaHeld
import Derived.Test.YtapfdceopbkcgaaOw
import Derived.Test.YtapfdceopbkcgaaPlainCross
import Derived.Test.YtapfdceopbkcgaaLayS
import Derived.Shelf.SortM.Plain
import Derived.Shelf.SortM.SortNone
import Derived.Shelf.SlicesG.SearchI
import Derived.Sort.OwnSortedInts
namespace Go.Proofs.Ytapfdceopbkcgaa
open Go.RowKit
open PCross (at_)

theorem bel_drawn {B : Nat} {a w : World} (h : Below B a w) (n : Nat) : Below B a (w.drewN n) := ⟨h.os, h.tape, h.output, h.size, h.block⟩
theorem half_le {i j h : Nat} (h0 : h = (i + j) / 2) (hij : i < j) : i ≤ h ∧ h < j := by omega

theorem putCells_app (S l : List Int) (Z : List Value) (h : S.length = l.length) : Sort.putCells (Value.int .i64) 0 S.toArray (is l ++ Z).toArray = (is S ++ Z).toArray := by
  apply Array.ext_getElem?
  intro j
  by_cases hj : j < S.length
  · have h1 : (is l ++ Z)[j]? = some (.int .i64 l[j]) := by
      rw [List.getElem?_append_left (by rw [is_length]; omega)]
      simp [is, List.getElem?_eq_getElem (show j < l.length by omega)]
    have h2 : (is S ++ Z)[j]? = some (.int .i64 S[j]) := by
      rw [List.getElem?_append_left (by rw [is_length]; omega)]
      simp [is, List.getElem?_eq_getElem hj]
    simp only [Sort.putCells, Array.getElem?_mapIdx, List.getElem?_toArray, h1, h2, Option.map_some, List.size_toArray]
    rw [if_pos ⟨Nat.zero_le _, by omega⟩]
    simp [hj]
  · have h1 : (is l ++ Z)[j]? = (is S ++ Z)[j]? := by
      rw [List.getElem?_append_right (by rw [is_length]; omega), List.getElem?_append_right (by rw [is_length]; omega), is_length, is_length, h]
    simp only [Sort.putCells, Array.getElem?_mapIdx, List.getElem?_toArray, h1, List.size_toArray]
    cases (is S ++ Z)[j]? with
    | none => rfl
    | some v =>
      simp only [Option.map_some]
      rw [if_neg (fun hh => hj (by omega))]

theorem srt_c (w : World) (base : Nat) (A : Option Addr) (c n : Nat) (l : List Int) (h : Ow w base 2 1 A n c (is l)) (hn : n ≤ 1000) :
    Calls Try.prog 23 #[.slice A n c] w fun e w' => e = .returned (.tuple #[]) ∧ ∃ S, S.Perm l ∧ S.Pairwise (· ≤ ·) ∧ Ow w' base 2 1 A n c (is S) ∧ Touch (bl A) w w' := by
  have hl : l.length = n := by have := h.1; rw [is_length] at this; omega
  rcases h.2 with ⟨rfl, rfl, rfl⟩ | ⟨g, Z, rfl, hb, hB, hnc, hc, hz⟩
  · have l0 : l = [] := List.eq_nil_of_length_eq_zero hl
    subst l0
    refine (show Calls _ 23 _ _ _ from AnyM.slices_Sort_int_none laySort none 0 w).mono ?_
    rintro e w' ⟨he, rfl⟩
    exact ⟨he, [], List.Perm.refl _, List.Pairwise.nil, h, Touch.refl _ _⟩
  · subst hl
    have hg : w.heap[g]? = some (.cells (is l ++ Z).toArray 2 (0, 0)) := hB
    have ht : (is l ++ Z).toArray.toList.take l.length = l.map (Value.int .i64) := by
      rw [List.toList_toArray, List.take_left' (is_length l)]; rfl
    have key := AnyM.slices_Sort_int laySort g 0 c l w (holds_of_blockI hg ht) hB.lt (by omega)
    refine (show Calls _ 23 _ _ _ from key).mono ?_
    rintro e w' ⟨he, k, os, rfl⟩
    have hlen := List.length_mergeSort (le := fun x y : Int => decide (x ≤ y)) l
    have hp := List.pairwise_mergeSort (le := fun x y : Int => decide (x ≤ y)) (fun a b c h1 h2 => by simp at h1 h2 ⊢; omega) (fun a b => by simp; omega) l
    have hq := heap_sortedI (n := k) (os := os) (l.mergeSort fun x y => decide (x ≤ y)).toArray hg
    rw [putCells_app _ _ _ hlen] at hq
    refine ⟨he, _, List.mergeSort_perm l _, hp.imp (fun h => by simpa using h), ⟨by rw [is_length, hlen]; omega, .inr ⟨g, Z, rfl, hb, hq, hnc, hc, ?_⟩⟩, (Touch.of_grown (grownBy_sortedI _)).wide (by simp [bl, bk])⟩
    rw [List.length_append, is_length] at hz ⊢
    omega

theorem find_c (w : World) (B : Nat) (A : Option Addr) (c n : Nat) (l : List Int) (h : Rd w B A c 1 n (is l)) (hs : l.Pairwise (· ≤ ·)) (h0 : 0 < n) (hn : n ≤ 1000) (x : Int) :
    Calls Try.prog 29 #[.slice A n c, .int .i64 x] w fun e w' => ∃ ok, e = .returned (.tuple #[.int .i64 (l.countP fun y => decide (y < x) : Nat), .bool ok]) ∧ Below w.heap.size w w' := by
  have hl := h.ilen
  obtain ⟨b, o, rfl, _, hc⟩ := h.2.2.2.2 (by omega)
  have hz : l.take n = l := List.take_of_length_le (by omega)
  have key := AnyG.slices_BinarySearch_int layFind b o n c l x w (by omega) (by omega) (fun j hj => hc j _ (by simp [is, List.getD, List.getElem?_eq_getElem hj])) (by rw [hz]; exact hs)
  rw [hz] at key
  refine (show Calls _ 29 _ _ _ from key).mono ?_
  rintro e w' ⟨rfl, q, rfl⟩
  exact ⟨_, rfl, bel_drawn (Below.refl _ _) q⟩

/-- sort.Search, of what turns once. -/
theorem search_c (w : World) (n : Nat) (G : FuncId) (cb : Array Value) (p : Nat → Bool) (hn : n ≤ 1000) (eg : ∀ args w, (callFunc G args).run Try.prog w = .ok (.enter G args) w)
    (hG : ∀ W (i : Nat), i < n → Below w.heap.size w W → Calls Try.prog G (#[.int .i64 i] ++ cb) W fun e W' => e = .returned (.bool (p i)) ∧ Below W.heap.size W W')
    (mono : ∀ i j, i ≤ j → j < n → p i = true → p j = true) :
    Calls Try.prog 24 #[.int .i64 n, .func (.func G) #[] cb] w fun e w' => ∃ r : Nat, e = .returned (.int .i64 r) ∧ r ≤ n ∧ (∀ i, i < r → p i = false) ∧ (∀ i, r ≤ i → i < n → p i = true) ∧ Below w.heap.size w w' := by
  have HG := Lib.hid hG
  have HM := Lib.hid mono
  clear hG mono
  go_enter Try.func24, Try.ntmps24
  go_wp2_with fail
  go_loopw [5, 6] (fun s5 s6 wr => ∃ i j : Nat, s5 = .int .i64 i ∧ s6 = .int .i64 j ∧ i ≤ j ∧ j ≤ n ∧ Hid ((∀ k, k < i → p k = false) ∧ (∀ k, j ≤ k → k < n → p k = true)) ∧ Hid (Below w.heap.size w wr)) (fun s5 s6 _ => (intOf s6).toNat - (intOf s5).toNat)
  case atStart => exact ⟨0, n, rfl, rfl, by omega, by omega, Lib.hid ⟨fun k hk => absurd hk (by omega), fun k h1 h2 => absurd h2 (by omega)⟩, Lib.hid (Below.refl _ _)⟩
  case round =>
    obtain ⟨i, j, rfl, rfl, hij, hjn, HP, BT⟩ := hrel
    by_cases hlt : i < j
    · obtain ⟨h, h0⟩ : ∃ h, h = (i + j) / 2 := ⟨_, rfl⟩
      have hh : ((i : Int) + (j : Int)) / 2 = (h : Int) := by omega
      obtain ⟨hih, hhj⟩ := half_le h0 hlt
      clear h0
      have HC := Lib.hid (HG.out wr h (by omega) BT.out)
      cases hp : p h
      · rw [hp] at HC
        have HP' := Lib.hid (show (∀ k, k < h + 1 → p k = false) ∧ (∀ k, j ≤ k → k < n → p k = true) from ⟨(fun k hk => by
          cases e : p k
          · rfl
          · rw [HM.out k h (by omega) (by omega) e] at hp; exact absurd hp (by decide)), HP.out.2⟩)
        clear hp
        go_wp2_with fail
        refine HC.out.mono ?_
        rintro e w1 ⟨rfl, b1⟩
        have B1 := Lib.hid (BT.out.trans (b1.mono BT.out.size))
        clear b1
        go_wp2_with fail
        go_roundw
        case rel => exact ⟨h + 1, j, by go_num, rfl, by omega, by omega, HP', B1⟩
        case measure => simp [intOf]; omega
      · rw [hp] at HC
        have HP' := Lib.hid (show (∀ k, k < i → p k = false) ∧ (∀ k, h ≤ k → k < n → p k = true) from ⟨HP.out.1, fun k h1 h2 => HM.out h k h1 h2 hp⟩)
        clear hp
        go_wp2_with fail
        refine HC.out.mono ?_
        rintro e w1 ⟨rfl, b1⟩
        have B1 := Lib.hid (BT.out.trans (b1.mono BT.out.size))
        clear b1
        go_wp2_with fail
        go_roundw
        case rel => exact ⟨i, h, rfl, rfl, by omega, by omega, HP', B1⟩
        case measure => simp [intOf]; omega
    · obtain rfl : i = j := by omega
      go_wp2_with fail
      go_ret
      exact ⟨i, rfl, hjn, HP.out.1, HP.out.2, BT.out⟩

/-- slices.IndexFunc of int64s. -/
theorem index_c (w : World) (A : Option Addr) (c n : Nat) (l : List Int) (h : Rd w w.heap.size A c 1 n (is l)) (hn : n ≤ 1000) (G : FuncId) (cb : Array Value) (p : Int → Bool) (eg : ∀ args w, (callFunc G args).run Try.prog w = .ok (.enter G args) w)
    (hG : ∀ W (x : Int), 0 < n → Below w.heap.size w W → Calls Try.prog G (#[.int .i64 x] ++ cb) W fun e W' => e = .returned (.bool (p x)) ∧ Below W.heap.size W W') :
    Calls Try.prog 22 #[.slice A n c, .func (.func G) #[] cb] w fun e w' => ((∃ i : Nat, i < n ∧ e = .returned (.int .i64 i) ∧ p (at_ l i) = true ∧ ∀ k, k < i → p (at_ l k) = false) ∨ e = .returned (.int .i64 (-1)) ∧ ∀ k, k < n → p (at_ l k) = false) ∧ Below w.heap.size w w' := by
  have HG := Lib.hid hG
  have R0 := Lib.hid h
  clear hG h
  go_enter Try.func22, Try.ntmps22
  go_wp2_with fail
  go_loopw [8] (fun s8 wr => ∃ i : Nat, s8 = .int .i64 i ∧ i ≤ n ∧ Hid (∀ k, k < i → p (at_ l k) = false) ∧ Hid (Rd wr w.heap.size A c 1 n (is l)) ∧ Hid (Below w.heap.size w wr)) (fun s8 _ => n - (intOf s8).toNat)
  case atStart => exact ⟨0, rfl, by omega, Lib.hid (fun k hk => absurd hk (by omega)), R0, Lib.hid (Below.refl _ _)⟩
  case round =>
    clear R0
    obtain ⟨i, rfl, hi, HP, RT, BT⟩ := hrel
    by_cases hin : i < n
    · obtain ⟨b, o, x, rfl, c0, -, hx⟩ := RT.out.int hin
      have HX := Lib.hid (show at_ l i = x from hx.symm)
      clear hx
      have HC := Lib.hid (HG.out wr x (by omega) BT.out)
      cases hp : p x
      · rw [hp] at HC
        have HP' := Lib.hid (show ∀ k, k < i + 1 → p (at_ l k) = false from fun k hk => by
          rcases (by omega : k < i ∨ k = i) with e | rfl
          · exact HP.out k e
          · rw [HX.out]; exact hp)
        clear hp
        go_wp2_with fail
        refine HC.out.mono ?_
        rintro e w1 ⟨rfl, b1⟩
        have R1 := Lib.hid (RT.out.below (b1.mono BT.out.size))
        have B1 := Lib.hid (BT.out.trans (b1.mono BT.out.size))
        clear b1
        go_wp2_with fail
        go_roundw
        case rel => exact ⟨i + 1, by go_num, by omega, HP', R1, B1⟩
        case measure => simp [intOf]; omega
      · rw [hp] at HC
        have HP' := Lib.hid (show p (at_ l i) = true by rw [HX.out]; exact hp)
        clear hp
        go_wp2_with fail
        refine HC.out.mono ?_
        rintro e w1 ⟨rfl, b1⟩
        have B1 := Lib.hid (BT.out.trans (b1.mono BT.out.size))
        clear b1
        go_wp2_with fail
        go_ret
        exact ⟨Or.inl ⟨i, hin, rfl, HP'.out, HP.out⟩, B1.out⟩
    · obtain rfl : i = n := by omega
      go_wp2_with fail
      go_ret
      exact ⟨Or.inr ⟨rfl, HP.out⟩, BT.out⟩
end Go.Proofs.Ytapfdceopbkcgaa
