/- A slice of strings that came in, as cells. No program is named here. -/
import Derived.Test.YtapleleaogjcjaaDoorKit
import Derived.SliceStrings
namespace Go.Proofs.YtapleleaogjcjaaDoor
open Go.RowKit

/-- Strings as cells. -/
def sts (l : List ByteArray) : List Value := l.map Value.string
theorem sts_length (l : List ByteArray) : (sts l).length = l.length := by simp [sts]
section
variable {H : Type} {enc : TypeId × Value → H} {P : Program} {w : World} {base : Nat} {spare : Nat → Bool} {held : Bool}
theorem open_sts {t e : TypeId} {fuel : Nat} {cs : List Value} {x : DataW H × List MemPlace} (ht : P.underlying t = some (.slice e)) (he : P.underlying e = some .string) (hC : P.cellsOf e = 1)
    (h : DataW.trod enc P w base spare held fuel t cs = some x) :
    ∃ (A : Option Addr) (n c : Nat) (zs : List ByteArray), cs = [.slice A n c] ∧ Rd w w.heap.size A c 1 n (sts zs) ∧ ∀ s ∈ zs, s.size ≤ maxLen := by
  rcases ChangeShapes.open_strings ht he hC h with ⟨rfl, _⟩ | ⟨a, len, cap, ss, rfl, _, hl, hm, hz, _, hcell, hws⟩
  · exact ⟨none, 0, 0, [], rfl, Rd.nil _ _ _, by simp⟩
  · have hle : len ≤ ss.length := by rw [hz]; split <;> omega
    have cel : ∀ j, j < len → w.cell? (a.add j) = some (.string (ss.getD j ByteArray.empty)) := fun j hj => hcell j (by omega)
    refine ⟨some a, len, cap, ss.take len, rfl, ⟨by simp [sts]; omega, hl, hm, (fun h => by cases h), fun hp => ?_⟩, fun s hs => hws s (List.mem_of_mem_take hs)⟩
    have h0 : 0 < len := by omega
    obtain ⟨b, o, spot⟩ := a
    have e0 := cel 0 h0
    have hs : spot = none := by simpa [Addr.add] using World.cell?_spot e0
    subst hs
    refine ⟨b, o, rfl, ?_, fun j u hu => ?_⟩
    · rw [add_zero_spot] at e0
      exact World.block_lt_of_cell? w _ e0
    · unfold sts at hu
      rw [List.getElem?_map, Option.map_eq_some_iff] at hu
      obtain ⟨s, hs, rfl⟩ := hu
      have hj : j < len := by
        have := (List.getElem?_eq_some_iff.1 hs).1
        simp at this; omega
      have := cel j hj
      rw [add_zero_spot] at this
      rw [this, List.getD_eq_getElem?_getD]
      rw [List.getElem?_take_of_lt hj] at hs
      rw [hs]; rfl
end
/-- The string at place i. -/
theorem Rd.str {w : World} {B : Nat} {A : Option Addr} {c n : Nat} {l : List ByteArray} (h : Rd w B A c 1 n (sts l)) {i : Nat} (hi : i < n) :
    ∃ b o s, A = some ⟨b, o, none⟩ ∧ b < B ∧ l[i]? = some s ∧ w.cell? ⟨b, o + i, none⟩ = some (.string s) := by
  obtain ⟨b, o, hA, hb, hc⟩ := h.at_ hi
  have hl := h.len
  rw [sts_length] at hl
  have hs : l[i]? = some (l[i]'(by omega)) := List.getElem?_eq_getElem (by omega)
  refine ⟨b, o, _, hA, hb, hs, ?_⟩
  rw [hc, sts, List.getD_eq_getElem?_getD, List.getElem?_map, hs]; rfl
end Go.Proofs.YtapleleaogjcjaaDoor
