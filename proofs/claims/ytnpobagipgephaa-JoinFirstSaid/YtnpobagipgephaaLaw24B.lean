/- The walk of JoinFirst. -/
import Derived.Test.YtnpobagipgephaaFirA
import Derived.Test.YtnpobagipgephaaFirB
import Derived.Test.YtnpobagipgephaaFirC
namespace Go.Proofs.Ytnpobagipgephaa
open Go.RowKit PJoin

theorem JoinFirst_w (w : World) (n boot pro : Int) (A : Option Addr) (c l : Nat) (L : List Int) (R : Rd w w.heap.size A c 1 l (is L)) : Calls Try.prog 5 #[.int .i64 n, .int .i64 boot, .int .i64 pro, .slice A l c] w fun e w' => e = .returned (.bool true) ∧ Below w.heap.size w w' := by
  by_cases h : 3 ≤ n ∧ n ≤ 7 ∧ 1 ≤ boot ∧ boot ≤ 1000 ∧ 0 ≤ pro ∧ pro ≤ 1000
  · obtain ⟨h1, h2, b1, b2, p1, p2⟩ := h
    rcases (by omega : n = 3 ∨ n = 4 ∨ n = 5 ∨ n = 6 ∨ n = 7) with rfl | rfl | rfl | rfl | rfl
    · exact JoinFirst_3 w boot pro A c l L R b1 b2 p1 p2
    · exact JoinFirst_4 w boot pro A c l L R b1 b2 p1 p2
    · exact JoinFirst_5 w boot pro A c l L R b1 b2 p1 p2
    · exact JoinFirst_6 w boot pro A c l L R b1 b2 p1 p2
    · exact JoinFirst_7 w boot pro A c l L R b1 b2 p1 p2
  · exact JoinFirst_bad w n boot pro A c l h
end Go.Proofs.Ytnpobagipgephaa
