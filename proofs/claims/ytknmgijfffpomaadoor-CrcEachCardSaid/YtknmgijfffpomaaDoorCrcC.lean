/- Contracts of crc.Seal and of the reference's. -/
import Derived.Test.YtknmgijfffpomaaDoorCrcB
import Derived.Test.YtknmgijfffpomaaDoorByte
namespace Go.Proofs.YtknmgijfffpomaaDoor
open Go.RowKit

theorem four_cells (s : Nat) (h : s < 4294967296) : #[Value.int .u8 ((s : Int) / 16777216), .int .u8 ((s : Int) / 65536 % 256), .int .u8 ((s : Int) / 256 % 256), .int .u8 ((s : Int) % 256)].toList = bs (PCrc.four s) := by
  simp only [bs, PCrc.four, List.map_cons, List.map_nil]
  have e : (s : Int) / 16777216 = ((s / 16777216 % 256 : Nat) : Int) := by omega
  have e2 : (s : Int) / 65536 % 256 = ((s / 65536 % 256 : Nat) : Int) := by omega
  have e3 : (s : Int) / 256 % 256 = ((s / 256 % 256 : Nat) : Int) := by omega
  have e4 : (s : Int) % 256 = ((s % 256 : Nat) : Int) := by omega
  rw [e, e2, e3, e4]

theorem isB_four (u : Nat) : isB (PCrc.four u) := by
  intro x hx
  simp only [PCrc.four, List.mem_cons, List.not_mem_nil, or_false] at hx
  omega
theorem isB_sealed {l : List Int} (h : isB l) : isB (PCrc.sealed l) := h.append (isB_four _)
theorem sealed_length (l : List Int) : (PCrc.sealed l).length = l.length + 4 := by simp [PCrc.sealed, PCrc.four]

set_option maxRecDepth 100000 in
theorem Seal_c (w : World) (B : Nat) (A : Option Addr) (c n : Nat) (l : List Int) (h : Rd w B A c 1 n (bs l)) (hb : isB l) (ht : Tab w) (hn : n ≤ 140000000000000) :
    Calls Tryd.prog 9 #[.slice A n c] w fun e w' => ∃ A' c', e = .returned (.slice A' (n + 4) c') ∧ w'.ownsRow w.heap.size 5 1 (.slice A' (n + 4) c') (n + 4) (bs (PCrc.sealed l)) ∧ Below w.heap.size w w' := by
  obtain ⟨i0, hi, hz0, hz1, hz2⟩ := info_parts byte_info
  have hs := PCrc.sum_lt hb
  have h4 := four_cells _ hs
  have H4 := Lib.hid h4; clear h4
  go_enter Tryd.func9, Tryd.ntmps9
  go_wp2_with fail
  refine (Sum_c w B A c n l h hb ht).mono ?_
  rintro e w1 ⟨rfl, rfl⟩
  have hse : PCrc.sealed l = l ++ PCrc.four (PCrc.sum l) := rfl
  have HSE := Lib.hid hse; clear hse
  generalize PCrc.sum l = s at *
  go_wp2_with (at_make; refine wpList_make_own _ rfl _ _ 22 rfl w.heap.size 5 i0 (.int .u8 0) 1 Tryd.underlying22 hi hz0 hz1 _ _ _ (n + 4) rfl rfl (by omega) ?b2 ?b3 (Nat.le_refl _) ?_)
  case b2 => rw [hz2]; omega
  case b3 => unfold maxLen; omega
  intro w0 hown0 hgrow0
  have hb0 : Below w.heap.size w w0 := (Below.refl _ _).grown hgrow0 (Nat.le_refl _) (fun k h => by cases h)
  have hr := h.past hb0
  have hsz0 := hb0.size
  go_wp2_with (at_builtin; refine wpList_app rfl (.tmp 11) (.tmp 12) _ rfl w.heap.size 5 _ 1 1 Tryd.underlying22 byte_info rfl (by omega) _ 0 [] rfl hown0 B A c n (bs l) rfl hr (bs_one l) (by unfold maxLen; omega) (by omega) hb0.size ?_)
  intro A' c' w1 hown1 hgrow1 hbel1
  have hown1' : w1.ownsRow w.heap.size 5 1 (.slice A' n c') n (bs l) := by simpa using hown1
  clear hown1
  have hsz1 := hbel1.size
  go_wp2_with (at_builtin; go_must (refine wpList_pushes rfl (.tmp 14) (.tmp 26) _ rfl w.heap.size 5 _ 1 1 4 Tryd.underlying22 byte_info rfl (by omega) rfl (by simp [maxLen]) A' c' n (bs l) rfl hown1' rfl ?c1 ?c2 ?c3 ?c4 ?_))
  case c1 => exact ⟨rfl, rfl, rfl, rfl⟩
  case c2 => unfold maxLen; omega
  case c3 => omega
  case c4 => omega
  intro A2 c2 w2 hown2 hgrow2 hbel2
  rw [H4.out, ← bs_append, ← HSE.out] at hown2
  go_wp2_with fail
  go_ret
  exact ⟨A2, c2, rfl, hown2, (hb0.trans hbel1).trans hbel2⟩

set_option maxRecDepth 100000 in
theorem rSeal_c (w : World) (B : Nat) (A : Option Addr) (c n : Nat) (l : List Int) (h : Rd w B A c 1 n (bs l)) (hb : isB l) (hn : n ≤ 140000000000000) :
    Calls Tryd.prog 14 #[.slice A n c] w fun e w' => ∃ A' c', e = .returned (.slice A' (n + 4) c') ∧ w'.ownsRow w.heap.size 5 1 (.slice A' (n + 4) c') (n + 4) (bs (PCrc.sealed l)) ∧ Below w.heap.size w w' := by
  have hs := PCrc.sum_lt hb
  have h4 := four_cells _ hs
  have H4 := Lib.hid h4; clear h4
  go_enter Tryd.func14, Tryd.ntmps14
  go_wp2_with fail
  refine (rSum_c w B A c n l h hb).mono ?_
  rintro e w1 ⟨rfl, rfl⟩
  have hse : PCrc.sealed l = l ++ PCrc.four (PCrc.sum l) := rfl
  have HSE := Lib.hid hse; clear hse
  generalize PCrc.sum l = s at *
  go_wp2_with (at_builtin; refine wpList_app rfl (.const (.slice none 0 0)) (.tmp 6) _ rfl w.heap.size 5 _ 1 1 Tryd.underlying22 byte_info rfl (by omega) _ 0 [] rfl (World.ownsRow_nil _ _ _ _) B A c n (bs l) rfl h (bs_one l) (by unfold maxLen; omega) (by omega) (Nat.le_refl _) ?_)
  intro A' c' w1 hown1 hgrow1 hbel1
  have hown1' : w1.ownsRow w.heap.size 5 1 (.slice A' n c') n (bs l) := by simpa using hown1
  clear hown1
  have hsz1 := hbel1.size
  go_wp2_with (at_builtin; go_must (refine wpList_pushes rfl (.tmp 7) (.tmp 19) _ rfl w.heap.size 5 _ 1 1 4 Tryd.underlying22 byte_info rfl (by omega) rfl (by simp [maxLen]) A' c' n (bs l) rfl hown1' rfl ?c1 ?c2 ?c3 ?c4 ?_))
  case c1 => exact ⟨rfl, rfl, rfl, rfl⟩
  case c2 => unfold maxLen; omega
  case c3 => omega
  case c4 => omega
  intro A2 c2 w2 hown2 hgrow2 hbel2
  rw [H4.out, ← bs_append, ← HSE.out] at hown2
  go_wp2_with fail
  go_ret
  exact ⟨A2, c2, rfl, hown2, hbel1.trans hbel2⟩

end Go.Proofs.YtknmgijfffpomaaDoor
