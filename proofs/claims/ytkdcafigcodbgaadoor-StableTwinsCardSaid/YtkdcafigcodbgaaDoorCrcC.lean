/- Contract of the reference's Seal. -/
import Derived.Test.YtkdcafigcodbgaaDoorCrcA
import Derived.Test.YtkdcafigcodbgaaDoorHeld
import Derived.Test.YtkdcafigcodbgaaDoorByte
namespace Go.Proofs.YtkdcafigcodbgaaDoor
open Go.RowKit


theorem four_cells (s : Nat) (h : s < 4294967296) : #[Value.int .u8 ((s : Int) / 16777216), .int .u8 ((s : Int) / 65536 % 256), .int .u8 ((s : Int) / 256 % 256), .int .u8 ((s : Int) % 256)].toList = bs (PCrc.four s) := by
  simp only [bs, PCrc.four, List.map_cons, List.map_nil]
  have e : (s : Int) / 16777216 = ((s / 16777216 % 256 : Nat) : Int) := by omega
  have e2 : (s : Int) / 65536 % 256 = ((s / 65536 % 256 : Nat) : Int) := by omega
  have e3 : (s : Int) / 256 % 256 = ((s / 256 % 256 : Nat) : Int) := by omega
  have e4 : (s : Int) % 256 = ((s % 256 : Nat) : Int) := by omega
  rw [e, e2, e3, e4]
theorem isB_four (u : Nat) : isB (PCrc.four u) := by
  intro x hx
  simp only [PCrc.four, List.mem_cons, List.not_mem_nil, or_false] at hx
  omega
theorem isB_sealed {l : List Int} (h : isB l) : isB (PCrc.sealed l) := h.append (isB_four _)
theorem sealed_length (l : List Int) : (PCrc.sealed l).length = l.length + 4 := by simp [PCrc.sealed, PCrc.four]
set_option maxRecDepth 100000 in
theorem rSeal_c (w : World) (B : Nat) (A : Option Addr) (c n : Nat) (l : List Int) (h : Rd w B A c 1 n (bs l)) (hb : isB l) (hn : n ≤ 140000000000000) :
    Calls Tryd.prog 19 #[.slice A n c] w fun e w' => ∃ A' c', e = .returned (.slice A' (n + 4) c') ∧ w'.ownsRow w.heap.size 5 1 (.slice A' (n + 4) c') (n + 4) (bs (PCrc.sealed l)) ∧ Below w.heap.size w w' := by
  have hs := PCrc.sum_lt hb
  have h4 := four_cells _ hs
  have H4 := Lib.hid h4; clear h4
  go_enter Tryd.func19, Tryd.ntmps19
  go_wp2_with fail
  refine (rSum_c w B A c n l h hb).mono ?_
  rintro e w1 ⟨rfl, rfl⟩
  have hse : PCrc.sealed l = l ++ PCrc.four (PCrc.sum l) := rfl
  have HSE := Lib.hid hse; clear hse
  generalize PCrc.sum l = s at *
  go_wp2_with (at_builtin; refine wpList_app rfl (.const (.slice none 0 0)) (.tmp 6) _ rfl w.heap.size 5 _ 1 1 Tryd.underlying33 byte_info rfl (by omega) _ 0 [] rfl (World.ownsRow_nil _ _ _ _) B A c n (bs l) rfl h (bs_one l) (by unfold maxLen; omega) (by omega) (Nat.le_refl _) ?_)
  intro A' c' w1 hown1 hgrow1 hbel1
  have hown1' : w1.ownsRow w.heap.size 5 1 (.slice A' n c') n (bs l) := by simpa using hown1
  clear hown1
  have hsz1 := hbel1.size
  go_wp2_with (at_builtin; go_must (refine wpList_pushes rfl (.tmp 7) (.tmp 19) _ rfl w.heap.size 5 _ 1 1 4 Tryd.underlying33 byte_info rfl (by omega) rfl (by simp [maxLen]) A' c' n (bs l) rfl hown1' rfl ?c1 ?c2 ?c3 ?c4 ?_))
  case c1 => exact ⟨rfl, rfl, rfl, rfl⟩
  case c2 => unfold maxLen; omega
  case c3 => omega
  case c4 => omega
  intro A2 c2 w2 hown2 hgrow2 hbel2
  rw [H4.out, ← bs_append, ← HSE.out] at hown2
  go_wp2_with fail
  go_ret
  exact ⟨A2, c2, rfl, hown2, hbel1.trans hbel2⟩
end Go.Proofs.YtkdcafigcodbgaaDoor
