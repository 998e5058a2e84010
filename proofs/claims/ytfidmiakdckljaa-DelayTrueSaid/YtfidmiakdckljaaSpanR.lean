/- The document's own answer: Ratio. -/
import Derived.Test.YtfidmiakdckljaaSpanD
namespace Go.Proofs.Ytfidmiakdckljaa
open Go.RowKit

/-- A part of a number, upwards or downwards. -/
def ratio (a p q : Int) (u : Bool) : Int := if u then PSpan.up a p q else PSpan.dn a p q

theorem Ratio_c (w : World) (a p q : Int) (u : Bool) (h1 : 0 ≤ a) (h2 : a ≤ 2199023255552) (h3 : 500000 ≤ p) (h4 : p ≤ 1500000) (h5 : 500000 ≤ q) (h6 : q ≤ 1500000) :
    Calls Try.prog 8 #[.int .i64 a, .int .i64 p, .int .i64 q, .bool u] w fun e w' => e = .returned (.int .i64 (ratio a p q u)) ∧ w = w' := by
  have HU := Lib.hid (PSpan.up_parts a p q (by omega))
  have HD := Lib.hid (PSpan.dn_parts a p q (by omega))
  have d1 : 0 ≤ a / q := Int.ediv_nonneg h1 (by omega)
  have d2 : a / q ≤ a := Int.ediv_le_self _ h1
  have d3 := Int.emod_nonneg a (show q ≠ 0 by omega)
  have d4 := Int.emod_lt_of_pos a (show 0 < q by omega)
  obtain ⟨m1, m2⟩ := mul_bound d1 (show a / q ≤ 2199023255552 by omega) (show 0 ≤ p by omega) h4
  obtain ⟨m3, m4⟩ := mul_bound d3 (show a % q ≤ 1500000 by omega) (show 0 ≤ p by omega) h4
  have e1 : 0 ≤ a % q * p / q := Int.ediv_nonneg m3 (by omega)
  have e2 : a % q * p / q ≤ a % q * p := Int.ediv_le_self _ m3
  have e3 := Int.emod_nonneg (a % q * p) (show q ≠ 0 by omega)
  have e4 := Int.emod_lt_of_pos (a % q * p) (show 0 < q by omega)
  cases u
  · go_enter Try.func8, Try.ntmps8
    go_wp2_with fail
    go_ret
    exact ⟨by show _ = Ending.returned (.int .i64 (PSpan.dn a p q)); rw [HD.out]; rfl, rfl⟩
  · by_cases hz : a % q * p % q = 0
    · have t1 : (a % q * p % q != 0) = false := by simp [hz]
      have HZ := Lib.hid hz; clear hz
      go_enter Try.func8, Try.ntmps8
      go_wp2_with fail
      go_ret
      exact ⟨by show _ = Ending.returned (.int .i64 (PSpan.up a p q)); rw [HU.out, if_pos HZ.out, Int.add_zero]; rfl, rfl⟩
    · have t1 : (a % q * p % q != 0) = true := by simp [hz]
      have HZ := Lib.hid hz; clear hz
      go_enter Try.func8, Try.ntmps8
      go_wp2_with fail
      go_ret
      exact ⟨by show _ = Ending.returned (.int .i64 (PSpan.up a p q)); rw [HU.out, if_neg HZ.out]; rfl, rfl⟩

end Go.Proofs.Ytfidmiakdckljaa
