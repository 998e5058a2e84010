/- Contract of the statements' Short. -/
import Derived.Test.YtkdcafigcodbgaaDoorByte
namespace Go.Proofs.YtkdcafigcodbgaaDoor
open Go.RowKit

theorem Short_c (w : World) (B : Nat) (A : Option Addr) (c n : Nat) (l : List Int) (k : Int) (h : Rd w B A c 1 n (bs l)) (h0 : 0 ≤ k) :
    Calls Tryd.prog 18 #[.slice A n c, .int .i64 k] w fun e w' => ∃ A' c', e = .returned (.slice A' (min n k.toNat) c') ∧ w = w' ∧ Rd w B A' c' 1 (min n k.toNat) (bs (l.take k.toNat)) := by
  obtain ⟨m, rfl⟩ := Int.eq_ofNat_of_zero_le h0
  have hl := h.blen
  have HL := Lib.hid hl; clear hl
  by_cases hlt : m < n
  · go_enter Tryd.func18, Tryd.ntmps18
    go_wp2_with (with_reducible show wpList _ _ _ ((⟨some 11, Op.slice 33 _ _ _ _, _, _, _, _⟩ : Oper) :: _) _ _
                 go_must (refine wpList_cut rfl 33 (.tmp 9) _ _ rfl 5 _ 1 1 Tryd.underlying33 byte_info B A c n (bs l) rfl h 0 m (.inl ⟨rfl, rfl⟩) (.inr rfl) (by omega) (by omega) ?_))
    intro A' c' hr
    go_wp2
    go_ret
    rw [← bs_take] at hr
    have e : min n m = m := by omega
    refine ⟨A', c', ?_, rfl, ?_⟩
    · rw [Int.toNat_natCast, e]; rfl
    · rw [Int.toNat_natCast, e]; exact hr
  · go_enter Tryd.func18, Tryd.ntmps18
    go_wp2
    go_ret
    have e : min n m = n := by omega
    refine ⟨A, c, ?_, rfl, ?_⟩
    · rw [Int.toNat_natCast, e]; rfl
    · rw [Int.toNat_natCast, e, List.take_of_length_le (by rw [HL.out]; omega)]; exact h

end Go.Proofs.YtkdcafigcodbgaaDoor
