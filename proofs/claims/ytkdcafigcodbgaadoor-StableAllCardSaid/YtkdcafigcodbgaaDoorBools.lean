/- A slice of bools that came in. No program is named here. -/
import Derived.Test.YtkdcafigcodbgaaDoorKit
import Derived.Deep.Grids
namespace Go.Proofs.YtkdcafigcodbgaaDoor
open Go.RowKit Go.ChangeShapes Go.WideShapes Go.ChangeAt Go.Deep

section
variable {H : Type} {enc : TypeId × Value → H} {P : Program} {w : World} {base : Nat} {held : Bool}
theorem open_bls {t e : TypeId} {fuel : Nat} {cs : List Value} {x : DataW H × List MemPlace} (ht : P.underlying t = some (.slice e)) (he : P.underlying e = some .bool) (hc : P.cellsOf e = 1)
    (h : DataW.trod enc P w base (fun _ => true) held fuel t cs = some x) :
    ∃ (A : Option Addr) (n c : Nat) (zs : List Bool), cs = [.slice A n c] ∧ Rd w w.heap.size A c 1 n (zs.map Value.bool) := by
  rcases open_bools ht he hc h with ⟨rfl, _⟩ | ⟨a, len, cap, B, rfl, hb, hl, hm, _, hcell⟩
  · exact ⟨none, 0, 0, [], rfl, Rd.nil _ _ _⟩
  · refine ⟨some a, len, cap, (List.range len).map B, rfl, by simp, hl, hm, (fun hh => by cases hh), fun hn => ?_⟩
    obtain ⟨b, o, spot⟩ := a
    have h0 := hcell 0 (by omega)
    have hs : spot = none := by simpa [Addr.add] using World.cell?_spot h0
    subst hs
    refine ⟨b, o, rfl, World.block_lt_of_cell? w _ (by simpa [Addr.add] using h0), fun j u hu => ?_⟩
    have hj : j < len := by
      have := (List.getElem?_eq_some_iff.1 hu).1
      simpa using this
    have := hcell j (by omega)
    rw [add_zero_spot] at this
    rw [this]
    simp only [List.map_map, List.getElem?_map, List.getElem?_range hj, Option.map_some, Option.some.injEq] at hu
    rw [← hu]; rfl
theorem Rd.bool {w : World} {B : Nat} {A : Option Addr} {c n : Nat} {l : List Bool} (h : Rd w B A c 1 n (l.map Value.bool)) {i : Nat} (hi : i < n) :
    ∃ b o x, A = some ⟨b, o, none⟩ ∧ w.cell? ⟨b, o + i, none⟩ = some (.bool x) := by
  have hl : i < l.length := by have := h.len; simp at this; omega
  obtain ⟨b, o, hA, _, hc⟩ := h.at_ hi
  refine ⟨b, o, l[i], hA, ?_⟩
  rw [hc]
  simp [List.getD, List.getElem?_map, List.getElem?_eq_getElem hl]
end
end Go.Proofs.YtkdcafigcodbgaaDoor
