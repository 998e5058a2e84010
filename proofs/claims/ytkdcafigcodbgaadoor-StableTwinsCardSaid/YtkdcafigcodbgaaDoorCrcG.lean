/- Contract of crc.Seal. -/
import Derived.Test.YtkdcafigcodbgaaDoorCrcC
namespace Go.Proofs.YtkdcafigcodbgaaDoor
open Go.RowKit

set_option maxRecDepth 100000 in
theorem Seal_c (w : World) (B : Nat) (A : Option Addr) (c n : Nat) (l : List Int) (h : Rd w B A c 1 n (bs l)) (hb : isB l) (ht : Tab w) (hn : n ≤ 140000000000000) :
    Calls Tryd.prog 21 #[.slice A n c] w fun e w' => ∃ A' c', e = .returned (.slice A' (n + 4) c') ∧ w'.ownsRow w.heap.size 5 1 (.slice A' (n + 4) c') (n + 4) (bs (PCrc.sealed l)) ∧ Below w.heap.size w w' := by
  obtain ⟨i0, hi, hz0, hz1, hz2⟩ := info_parts byte_info
  have hs := PCrc.sum_lt hb
  have h4 := four_cells _ hs
  have H4 := Lib.hid h4; clear h4
  go_enter Tryd.func21, Tryd.ntmps21
  go_wp2_with fail
  refine (Sum_c w B A c n l h hb ht).mono ?_
  rintro e w1 ⟨rfl, rfl⟩
  have hse : PCrc.sealed l = l ++ PCrc.four (PCrc.sum l) := rfl
  have HSE := Lib.hid hse; clear hse
  generalize PCrc.sum l = s at *
  go_wp2_with (at_make; refine wpList_make_own _ rfl _ _ 33 rfl w.heap.size 5 i0 (.int .u8 0) 1 Tryd.underlying33 hi hz0 hz1 _ _ _ (n + 4) rfl rfl (by omega) ?b2 ?b3 (Nat.le_refl _) ?_)
  case b2 => rw [hz2]; omega
  case b3 => unfold maxLen; omega
  intro w0 hown0 hgrow0
  have hb0 : Below w.heap.size w w0 := (Below.refl _ _).grown hgrow0 (Nat.le_refl _) (fun k h => by cases h)
  have hr := h.past hb0
  have hsz0 := hb0.size
  go_wp2_with (at_builtin; refine wpList_app rfl (.tmp 11) (.tmp 12) _ rfl w.heap.size 5 _ 1 1 Tryd.underlying33 byte_info rfl (by omega) _ 0 [] rfl hown0 B A c n (bs l) rfl hr (bs_one l) (by unfold maxLen; omega) (by omega) hb0.size ?_)
  intro A' c' w1 hown1 hgrow1 hbel1
  have hown1' : w1.ownsRow w.heap.size 5 1 (.slice A' n c') n (bs l) := by simpa using hown1
  clear hown1
  have hsz1 := hbel1.size
  go_wp2_with (at_builtin; go_must (refine wpList_pushes rfl (.tmp 14) (.tmp 26) _ rfl w.heap.size 5 _ 1 1 4 Tryd.underlying33 byte_info rfl (by omega) rfl (by simp [maxLen]) A' c' n (bs l) rfl hown1' rfl ?c1 ?c2 ?c3 ?c4 ?_))
  case c1 => exact ⟨rfl, rfl, rfl, rfl⟩
  case c2 => unfold maxLen; omega
  case c3 => omega
  case c4 => omega
  intro A2 c2 w2 hown2 hgrow2 hbel2
  rw [H4.out, ← bs_append, ← HSE.out] at hown2
  go_wp2_with fail
  go_ret
  exact ⟨A2, c2, rfl, hown2, (hb0.trans hbel1).trans hbel2⟩
end Go.Proofs.YtkdcafigcodbgaaDoor
