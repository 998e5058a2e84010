/- The walk of DelayTrue. -/
import Derived.Test.YtfidmiakdckljaaLaw9B
import Derived.Test.YtfidmiakdckljaaLaw9C
import Derived.Test.YtfidmiakdckljaaLaw9D
import Derived.Test.YtfidmiakdckljaaLaw9E
import Derived.Test.YtfidmiakdckljaaLaw9F
namespace Go.Proofs.Ytfidmiakdckljaa
open Go.RowKit

theorem DelayTrue_w (w : World) (th st bk x y p : Int) (f g : Bool) :
    Calls Try.prog 3 #[.int .i64 th, .int .i64 st, .int .i64 bk, .int .i64 x, .int .i64 y, .int .i64 p, .bool f, .bool g] w fun e w' => e = .returned (.bool true) ∧ Below w.heap.size w w' := by
  by_cases c0 : th < 0 ∨ 1048576 < th ∨ st < 0 ∨ 1048576 < st ∨ bk < 0
  · exact DelayTrue_bad0 w th st bk x y p f g c0
  by_cases c1 : 1048576 < bk ∨ x < 0 ∨ 1073741824 < x ∨ y < 0
  · exact DelayTrue_bad1 w th st bk x y p f g (by omega) (by omega) (by omega) (by omega) (by omega) c1
  by_cases c2 : 1073741824 < y ∨ p < 0 ∨ 500000 < p
  · exact DelayTrue_bad2 w th st bk x y p f g (by omega) (by omega) (by omega) (by omega) (by omega) (by omega) (by omega) (by omega) (by omega) c2
  cases f <;> cases g
  · exact DelayTrue_ff w th st bk x y p (by omega) (by omega) (by omega) (by omega) (by omega) (by omega) (by omega) (by omega) (by omega) (by omega) (by omega) (by omega)
  · exact DelayTrue_ft w th st bk x y p (by omega) (by omega) (by omega) (by omega) (by omega) (by omega) (by omega) (by omega) (by omega) (by omega) (by omega) (by omega)
  · exact DelayTrue_tf w th st bk x y p (by omega) (by omega) (by omega) (by omega) (by omega) (by omega) (by omega) (by omega) (by omega) (by omega) (by omega) (by omega)
  · exact DelayTrue_tt w th st bk x y p (by omega) (by omega) (by omega) (by omega) (by omega) (by omega) (by omega) (by omega) (by omega) (by omega) (by omega) (by omega)
end Go.Proofs.Ytfidmiakdckljaa
