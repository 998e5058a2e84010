/- Contract of the statements' own 'begun' (layer 1). -/
import Derived.Test.YthafdgnpkfphoaaRefNumC
import Derived.Test.YthafdgnpkfphoaaNumB
namespace Go.Proofs.Ythafdgnpkfphoaa
open Go.RowKit

theorem isB_sev (u : Nat) : isB (PNum.sev u) := PNum.sev_byte u

set_option maxRecDepth 100000 in
theorem begun_c (w : World) : Calls Try.prog 8 #[] w fun e w' => e = .returned (.bool true) ∧ Below w.heap.size w w' := by
  have g1 : PNum.getB 0 0 [128, 1] = (64, 2, 0) := by decide
  have g2 : PNum.getB 0 0 [] = (0, 0, 2) := rfl
  have z1 : PNum.zig (-1) = 1 := by decide
  have s1 : PNum.sev (PNum.zig (-1)) = [1] := by rw [z1, PNum.sev_lo (by omega)]; rfl
  have z2 : PNum.zig ((⟨#[97, 98]⟩ : ByteArray).size : Int) = 4 := by decide
  have s2 : PNum.sev (PNum.zig ((⟨#[97, 98]⟩ : ByteArray).size : Int)) = [4] := by rw [z2, PNum.sev_lo (by omega)]; rfl
  have g3 : PNum.getT [4, 97, 98] = ([97, 98], 3, 0) := by decide
  have n2 := (⟨#[97, 98]⟩ : ByteArray).size
  have G1 := Lib.hid g1; have G2 := Lib.hid g2; have S1 := Lib.hid s1; have S2 := Lib.hid s2; have G3 := Lib.hid g3
  clear g1 g2 z1 s1 z2 s2 g3 n2
  have q1 : strOfNums [1] = ⟨#[1]⟩ := rfl
  have q2 : strOfNums [97, 98] = ⟨#[97, 98]⟩ := rfl
  go_enter Try.func8, Try.ntmps8
  go_wp2_with fail
  refine (Get_c _ _ _ _ _ [128, 1] (Rd.new w #[.int .u8 128, .int .u8 1] _ 1 2 rfl (by simp [maxLen])) (by unfold isB; decide)).mono ?_
  rintro e w1 ⟨rfl, rfl⟩
  rw [G1.out]
  simp only [tup3]
  go_wp2_with fail
  refine (Get_c _ 0 _ _ _ [] (Rd.nil _ 0 1) (by unfold isB; decide)).mono ?_
  rintro e w1 ⟨rfl, rfl⟩
  rw [G2.out]
  simp only [tup3]
  go_wp2_with fail
  refine (PutText_c _ 0 _ _ _ [] ⟨#[97, 98]⟩ (Rd.nil _ 0 1) (by omega) (by decide)).mono ?_
  rintro e w1 ⟨A1, c1, rfl, hown1, hb1⟩
  rw [S2.out] at hown1 ⊢
  have hr1 : Rd w1 w1.heap.size A1 c1 1 3 (bs [4, 97, 98]) := Rd.of_own hown1
  have hsz := hb1.size
  go_wp2_with fail
  refine (GetText_c _ _ _ _ _ [4, 97, 98] hr1 (by unfold isB; decide) (by omega)).mono ?_
  rintro e w2 ⟨rfl, rfl⟩
  rw [G3.out]
  simp only [tupT]
  go_wp2_with fail
  refine (Put_c _ 0 _ _ _ [] (-1) (Rd.nil _ 0 1) (by omega) (by omega) (by omega)).mono ?_
  rintro e w2 ⟨A2, c2, rfl, hown2, hb2⟩
  rw [S1.out] at hown2 ⊢
  have hr2 : Rd w2 w2.heap.size A2 c2 1 1 (bs [1]) := Rd.of_own hown2
  have hsz2 := hb2.size
  go_wp2_with (with_reducible show wpList _ _ _ ((⟨some 28, Op.convert 22 9 (.tmp 27), _, _, _, _⟩ : Oper) :: _) _ _
               go_must (refine wpList_toStr rfl 22 9 (.tmp 27) rfl 5 Try.underlying22 Try.underlying5 Try.underlying9 _ A2 c2 1 [1] rfl hr2 ?_))
  go_ret
  exact ⟨rfl, ((Below.refl _ _).alloc (Nat.le_refl _) _).trans ((hb1.trans (hb2.mono hsz)).mono (by simp))⟩

end Go.Proofs.Ythafdgnpkfphoaa
