/- Contract of the statements' Cut. -/
import Derived.Test.YtkpgijmpaklfgaaRows
import Derived.Test.YtkpgijmpaklfgaaKit
namespace Go.Proofs.Ytkpgijmpaklfgaa
open Go.RowKit

theorem Cut_c (w : World) (s : ByteArray) (k : Int) (h0 : 0 ≤ k) :
    Calls Try.prog 24 #[.string s, .int .i64 k] w fun e w' => ∃ t : ByteArray, e = .returned (.string t) ∧ w = w' ∧ (t.size : Int) ≤ k ∧ t.size ≤ s.size := by
  obtain ⟨m, rfl⟩ := Int.eq_ofNat_of_zero_le h0
  by_cases hlt : m < s.size
  · go_enter Try.func24, Try.ntmps24
    go_wp2
    go_ret
    exact ⟨_, rfl, rfl, by simp; omega, by simp; omega⟩
  · go_enter Try.func24, Try.ntmps24
    go_wp2
    go_ret
    exact ⟨s, rfl, rfl, by omega, by omega⟩

end Go.Proofs.Ytkpgijmpaklfgaa
