/- What Open answers of sealed bytes, whole or changed in a place. No program is named here. -/
import Derived.Test.YtkdcafigcodbgaaDoorCrcO
import Derived.Test.YtkdcafigcodbgaaDoorPlainCrc2
namespace Go.Proofs.YtkdcafigcodbgaaDoor
open Go.RowKit

theorem openP_by_seal {l : List Int} (hb : isB l) : openP l = if 4 ≤ l.length ∧ PCrc.sealed (l.take (l.length - 4)) = l then (l.take (l.length - 4), true) else ([], false) := by
  unfold openP
  have h : 4 ≤ l.length → (PCrc.sum (l.take (l.length - 4)) = PCrc.told (l.drop (l.length - 4)) ↔ PCrc.sealed (l.take (l.length - 4)) = l) := by
    intro h4
    have e : l = l.take (l.length - 4) ++ l.drop (l.length - 4) := (List.take_append_drop _ _).symm
    have hl : (l.drop (l.length - 4)).length = 4 := by rw [List.length_drop]; omega
    constructor
    · intro hs
      unfold PCrc.sealed
      rw [hs, PCrc.four_told (hb.drop _) hl, List.take_append_drop]
    · intro hs
      conv at hs => rhs; rw [e]
      unfold PCrc.sealed at hs
      have := List.append_cancel_left hs
      rw [← this, PCrc.told_four (PCrc.sum_lt (hb.take _))]
  by_cases h4 : 4 ≤ l.length
  · simp only [h4, true_and, h h4]
  · simp [h4]

theorem openP_sealed {l : List Int} (hb : isB l) : openP (PCrc.sealed l) = (l, true) := by
  have hl : (PCrc.sealed l).length = l.length + 4 := sealed_length l
  unfold openP
  have e1 : (PCrc.sealed l).take ((PCrc.sealed l).length - 4) = l := by
    rw [hl, Nat.add_sub_cancel]; unfold PCrc.sealed; exact List.take_left
  have e2 : (PCrc.sealed l).drop ((PCrc.sealed l).length - 4) = PCrc.four (PCrc.sum l) := by
    rw [hl, Nat.add_sub_cancel]; unfold PCrc.sealed; exact List.drop_left
  rw [e1, e2, PCrc.told_four (PCrc.sum_lt hb), if_pos ⟨by omega, rfl⟩]

theorem openP_of {d q : List Int} (hq : q.length = 4) (h : PCrc.sum d ≠ PCrc.told q) : openP (d ++ q) = ([], false) := by
  unfold openP
  have e : (d ++ q).length - 4 = d.length := by rw [List.length_append]; omega
  rw [e, List.take_left, List.drop_left, if_neg (fun h' => h h'.2)]

theorem openP_burst {b x : List Int} {i : Nat} (hb : isB b) (hx : isB x) (h : i + x.length ≤ b.length) (h4 : x.length ≤ 4) (h0 : ∃ y ∈ x, y ≠ 0) : openP (PCrc.lay (PCrc.sealed b) x i) = ([], false) := by
  unfold PCrc.sealed
  rw [PCrc.lay_append _ _ _ _ h]
  refine openP_of (by simp [PCrc.four]) ?_
  rw [PCrc.told_four (PCrc.sum_lt hb)]
  exact PCrc.lay_sum b x i h hb hx h4 h0

theorem openP_each {b : List Int} {x : Int} {i : Nat} (hb : isB b) (hx : 0 ≤ x ∧ x < 256) (h : i < b.length + 4) (h0 : x ≠ 0) : openP (PCrc.lay (PCrc.sealed b) [x] i) = ([], false) := by
  have hX : isB [x] := by intro y hy; simp at hy; subst hy; exact hx
  by_cases hi : i < b.length
  · exact openP_burst hb hX (by simp; omega) (by simp) ⟨x, by simp, h0⟩
  · have hS := isB_sealed hb
    have hne := PCrc.lay_ne (PCrc.sealed b) i x (by rw [sealed_length]; omega) hS hx h0
    have hlen : (PCrc.lay (PCrc.sealed b) [x] i).length = b.length + 4 := by rw [PCrc.lay_length _ _ _ (by rw [sealed_length]; simp; omega), sealed_length]
    have ht : (PCrc.lay (PCrc.sealed b) [x] i).take b.length = b := by
      have e1 : (PCrc.lay (PCrc.sealed b) [x] i).take b.length = ((PCrc.lay (PCrc.sealed b) [x] i).take i).take b.length := by rw [List.take_take, Nat.min_eq_left (by omega)]
      rw [e1, PCrc.lay_take _ _ _ (by rw [sealed_length]; simp; omega), List.take_take, Nat.min_eq_left (by omega)]
      unfold PCrc.sealed; exact List.take_left
    have hB : isB (PCrc.lay (PCrc.sealed b) [x] i) := PCrc.lay_byte i hS hX
    generalize PCrc.lay (PCrc.sealed b) [x] i = D at *
    have hd : (D.drop b.length).length = 4 := by rw [List.length_drop]; omega
    have hD : D = b ++ D.drop b.length := by conv => lhs; rw [← List.take_append_drop b.length D, ht]
    rw [hD]
    refine openP_of hd fun hs => hne ?_
    rw [hD, PCrc.sealed, hs, PCrc.four_told (hB.drop _) hd]

end Go.Proofs.YtkdcafigcodbgaaDoor
