/- The walks of package tally's statements. -/
import Derived.Test.YtkfgnnnlhpaglaaTallyB
import Derived.Test.YtkfgnnnlhpaglaaInt
namespace Go.Proofs.Ytkfgnnnlhpaglaa
open Go.RowKit

set_option maxRecDepth 100000 in
theorem begun_c (w : World) :
    Calls Try.prog 7 #[] w fun e w' => e = .returned (.bool true) ∧ Below w.heap.size w w' := by
  have k1 := PTally.add_ok PTally.zero_ok 3
  have k2 := PTally.add_ok k1 3
  have k3 := PTally.add_ok k2 16
  have k4 := PTally.add_ok k3 0
  have T0 : Tl _ _ _ := Ti.new w _
  have b0 : Below w.heap.size w (w.alloc (.cells #[.int .i64 0, .int .i64 0, .int .i64 0, .int .i64 0, .int .i64 0, .int .i64 0, .int .i64 0, .int .i64 0, .int .i64 0, .int .i64 0, .int .i64 0, .int .i64 0, .int .i64 0, .int .i64 0, .int .i64 0, .int .i64 0] 31)) := (Below.refl _ _).alloc (Nat.le_refl _) _
  go_enter Try.func7, Try.ntmps7
  go_wp2_with fail
  refine (tAdd_c _ _ _ T0 _ PTally.zero_ok (by omega) 3).mono ?_
  rintro e w1 ⟨rfl, T1, g1⟩
  have b1 := b0.grown g1 (by simp) (fun k hk => by cases hk; exact Nat.le_refl _)
  clear T0 b0 g1
  go_wp2_with fail
  refine (tAdd_c _ _ _ T1 _ k1 (by omega) 3).mono ?_
  rintro e w2 ⟨rfl, T2, g2⟩
  have b2 := b1.grown g2 b1.size (fun k hk => by cases hk; exact Nat.le_refl _)
  clear T1 b1 g2
  go_wp2_with fail
  refine (tAdd_c _ _ _ T2 _ k2 (by omega) 16).mono ?_
  rintro e w3 ⟨rfl, T3, g3⟩
  have b3 := b2.grown g3 b2.size (fun k hk => by cases hk; exact Nat.le_refl _)
  clear T2 b2 g3
  go_wp2_with fail
  refine (tGet_c _ _ _ T3 3).mono ?_
  rintro e w' ⟨rfl, rfl⟩
  go_wp2_with fail
  refine (tAdd_c _ _ _ T3 _ k3 (by omega) 0).mono ?_
  rintro e w4 ⟨rfl, T4, g4⟩
  have b4 := b3.grown g4 b3.size (fun k hk => by cases hk; exact Nat.le_refl _)
  clear T3 b3 g4
  go_wp2_with fail
  refine (tSum_c _ _ _ T4 _ k4 (by omega)).mono ?_
  rintro e w' ⟨rfl, rfl⟩
  go_wp2_with fail
  refine (tReset_c _ _ _ T4 _ k4 (by omega)).mono ?_
  rintro e w5 ⟨rfl, T5, g5⟩
  have b5 := b4.grown g5 b4.size (fun k hk => by cases hk; exact Nat.le_refl _)
  clear T4 b4 g5
  go_wp2_with fail
  refine (tSum_c _ _ _ T5 _ PTally.zero_ok (by omega)).mono ?_
  rintro e w' ⟨rfl, rfl⟩
  go_wp2_with fail
  go_ret
  exact ⟨rfl, b5⟩

end Go.Proofs.Ytkfgnnnlhpaglaa
