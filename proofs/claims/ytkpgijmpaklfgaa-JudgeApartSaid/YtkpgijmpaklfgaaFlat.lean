/- A slice of structs of one-cell fields (ints, bools, strings) that came in, as cells. No program is named here. -/
import Derived.Test.YtkpgijmpaklfgaaKit
import Derived.Test.YtkpgijmpaklfgaaBlk
import Derived.Deep.Slices
import Derived.Deep.Fields
import Derived.ChangeSame
namespace Go.Proofs.Ytkpgijmpaklfgaa
open Go.RowKit Go.ChangeShapes Go.WideShapes Go.Deep

/-- Each cell is an int64. -/
def AllI (xs : List Value) : Prop := ∀ (q : Nat) (u : Value), xs[q]? = some u → ∃ x, u = .int .i64 x ∧ (Lit.int .i64 x).wf = true

section
variable {H : Type} {enc : TypeId × Value → H} {P : Program} {w : World} {base : Nat} {spare : Nat → Bool} {held : Bool}
/-- F j u: what is known of the cell of field j. -/
theorem open_flat {t e : TypeId} {fs : Array Field} {m : Nat} {fuel : Nat} {cs : List Value} {x : DataW H × List MemPlace} (F : Nat → Value → Prop)
    (ht : P.underlying t = some (.slice e)) (he : P.underlying e = some (.struct fs)) (hC : P.cellsOf e = m) (hm : fs.size = m) (hm0 : 0 < m)
    (hF : ∀ (j : Nat) (f : Field), fs[j]? = some f → P.cellsOf f.type = 1 ∧ f.offset = j ∧ ∀ (fuel : Nat) (cs : List Value) (x : DataW H × List MemPlace), DataW.trod enc P w base spare held fuel f.type cs = some x → ∃ u, cs = [u] ∧ F j u)
    (h : DataW.trod enc P w base spare held fuel t cs = some x) :
    ∃ (A : Option Addr) (n c : Nat) (xs : List Value), cs = [.slice A n c] ∧ Rd w w.heap.size A c m n xs ∧ ∀ (i j : Nat) (u : Value), j < m → xs[i * m + j]? = some u → F j u := by
  rcases open_slice ht h with ⟨rfl, _⟩ | ⟨a, len, cap, k, q, D, Pl, hcs, hb, hl, hc, hk, hx, hi⟩
  · exact ⟨none, 0, 0, [], rfl, Rd.nil _ _ _, fun i j u _ hu => by simp at hu⟩
  · have hle : len ≤ k := by rw [hk]; split <;> omega
    have each : ∀ i j, i < len → j < m → ∃ u, w.cell? ((a.add (i * m)).add j) = some u ∧ F j u := by
      intro i j hil hj
      obtain ⟨cs', hc', ht'⟩ := hi i (by omega)
      rw [hC] at hc'
      obtain ⟨_, hcl, hat⟩ := World.cells?_some hc'
      obtain ⟨ys, n', _, _, _, hyl, hf⟩ := DataW.trod_struct he ht'
      have hj' : j < fs.size := by omega
      obtain ⟨h1, h2, h3⟩ := hF j fs[j] (Array.getElem?_eq_getElem hj')
      have hy := hf j fs[j] (Array.getElem?_eq_getElem hj')
      rw [List.getElem?_eq_getElem (show j < ys.length by omega)] at hy
      obtain ⟨u, hu, hFu⟩ := h3 _ _ _ hy
      rw [h1, h2] at hu
      refine ⟨u, (hat j hj).trans ?_, hFu⟩
      have := congrArg (fun l => l[0]?) hu
      simpa [List.getElem?_take, List.getElem?_drop] using this
    by_cases hp : 0 < len
    · obtain ⟨u0, e0, _⟩ := each 0 0 hp hm0
      obtain ⟨b, o, spot⟩ := a
      have hs : spot = none := by simpa [Addr.add] using World.cell?_spot e0
      subst hs
      have cel : ∀ i j, i < len → j < m → ∃ u, w.cell? ⟨b, o + (i * m + j), none⟩ = some u ∧ F j u := by
        intro i j hil hj
        obtain ⟨u, hu, hFu⟩ := each i j hil hj
        rw [add_zero_spot, add_zero_spot, Nat.add_assoc] at hu
        exact ⟨u, hu, hFu⟩
      refine ⟨some ⟨b, o, none⟩, len, cap, (List.range (len * m)).map (fun q => (w.cell? ⟨b, o + q, none⟩).getD undef), hcs, ⟨by simp, hl, hc, (fun hh => by cases hh), fun _ => ⟨b, o, rfl, ?_, fun j u hu => ?_⟩⟩, fun i j u hj hu => ?_⟩
      · rw [add_zero_spot, add_zero_spot] at e0
        exact World.block_lt_of_cell? w _ e0
      · rw [List.getElem?_map] at hu
        by_cases hj : j < len * m
        · rw [List.getElem?_range hj] at hu
          have d1 : j / m < len := Nat.div_lt_of_lt_mul (by rw [Nat.mul_comm]; exact hj)
          have d2 : j % m < m := Nat.mod_lt _ hm0
          obtain ⟨v, hv, _⟩ := cel (j / m) (j % m) d1 d2
          rw [show j / m * m + j % m = j by rw [Nat.mul_comm]; exact Nat.div_add_mod j m] at hv
          simp [hv] at hu
          rw [hv, hu]
        · rw [List.getElem?_eq_none (by simpa using hj)] at hu
          cases hu
      · rw [List.getElem?_map] at hu
        by_cases hq : i * m + j < len * m
        · rw [List.getElem?_range hq] at hu
          have d1 : i < len := by
            rcases Nat.lt_or_ge i len with h | h
            · exact h
            · have := Nat.mul_le_mul_right m h; omega
          obtain ⟨v, hv, hFv⟩ := cel i j d1 hj
          simp [hv] at hu
          rw [← hu]; exact hFv
        · rw [List.getElem?_eq_none (by simpa using hq)] at hu
          cases hu
    · have : len = 0 := by omega
      subst this
      exact ⟨some a, 0, cap, [], hcs, ⟨by simp, hl, hc, (fun hh => by cases hh), fun h => by omega⟩, fun i j u _ hu => by simp at hu⟩

/-- Structs of int64s. -/
theorem open_flatI {t e : TypeId} {fs : Array Field} {m : Nat} {fuel : Nat} {cs : List Value} {x : DataW H × List MemPlace}
    (ht : P.underlying t = some (.slice e)) (he : P.underlying e = some (.struct fs)) (hC : P.cellsOf e = m) (hm : fs.size = m) (hm0 : 0 < m)
    (hF : ∀ (j : Nat) (f : Field), fs[j]? = some f → P.underlying f.type = some (.int .i64) ∧ P.cellsOf f.type = 1 ∧ f.offset = j)
    (h : DataW.trod enc P w base spare held fuel t cs = some x) :
    ∃ (A : Option Addr) (n c : Nat) (xs : List Value), cs = [.slice A n c] ∧ Rd w w.heap.size A c m n xs ∧ AllI xs := by
  obtain ⟨A, n, c, xs, e1, e2, e3⟩ := open_flat (F := fun _ u => ∃ x, u = .int .i64 x ∧ (Lit.int .i64 x).wf = true) ht he hC hm hm0 (fun j f hf => by
    obtain ⟨h1, h2, h3⟩ := hF j f hf
    refine ⟨h2, h3, fun fuel cs x hx => ?_⟩
    obtain ⟨n, hn, _, hw⟩ := DataW.trod_int h1 hx
    exact ⟨_, hn, n, rfl, hw⟩) h
  refine ⟨A, n, c, xs, e1, e2, fun q u hq => e3 (q / m) (q % m) u (Nat.mod_lt _ hm0) ?_⟩
  rw [show q / m * m + q % m = q by rw [Nat.mul_comm]; exact Nat.div_add_mod q m]
  exact hq
end

section
variable {w : World} {B c m n : Nat} {A : Option Addr} {xs : List Value}
/-- The cells of the struct at place i. -/
theorem Rd.flat (h : Rd w B A c m n xs) {i : Nat} (hi : i < n) (hm : 0 < m) : ∃ b o, A = some ⟨b, o, none⟩ ∧ b < B ∧ ∀ j, j < m → ∃ u, xs[i * m + j]? = some u ∧ w.cell? ⟨b, o + i * m + j, none⟩ = some u := by
  have hlt : i * m + m ≤ n * m := by rw [← Nat.succ_mul]; exact Nat.mul_le_mul_right m hi
  obtain ⟨b, o, hA, hb, hc⟩ := h.2.2.2.2 (by omega)
  refine ⟨b, o, hA, hb, fun j hj => ?_⟩
  have hl : i * m + j < xs.length := by rw [h.len]; omega
  exact ⟨_, List.getElem?_eq_getElem hl, by rw [Nat.add_assoc]; exact hc _ _ (List.getElem?_eq_getElem hl)⟩
theorem Rd.flatI (h : Rd w B A c m n xs) (hI : AllI xs) {i : Nat} (hi : i < n) (hm : 0 < m) : ∃ b o, A = some ⟨b, o, none⟩ ∧ b < B ∧ ∀ j, j < m → ∃ x, w.cell? ⟨b, o + i * m + j, none⟩ = some (.int .i64 x) := by
  obtain ⟨b, o, hA, hb, hc⟩ := h.flat hi hm
  refine ⟨b, o, hA, hb, fun j hj => ?_⟩
  obtain ⟨u, hu, hcell⟩ := hc j hj
  obtain ⟨x, rfl, _⟩ := hI _ _ hu
  exact ⟨x, hcell⟩
end
end Go.Proofs.Ytkpgijmpaklfgaa
