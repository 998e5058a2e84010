/- The walk of WireBytes. -/
import Derived.Test.YtgcpofiecbpfbaaDoorSeg15
namespace Go.Proofs.YtgcpofiecbpfbaaDoor
open Go.RowKit

theorem WireBytes_w (w : World) (ht : Tab w) (m : Msg) (A : Option Addr) (c : Nat) (ra : Rd w w.heap.size A c 7 m.es.length (els m.es)) (oa : MsgOk m) (a cut x : Int) (ha : -9223372036854775808 ≤ a ∧ a ≤ 9223372036854775807) (hcut : -9223372036854775808 ≤ cut ∧ cut ≤ 9223372036854775807) (hx0 : 0 ≤ x) (hx1 : x < 256) :
    Calls Tryd.prog 4 #[mv m A c, .int .i64 a, .int .i64 cut, .int .u8 x] w fun e w' => e = .returned (.bool true) ∧ Below w.heap.size w w' := by
  rcases Int.lt_or_le 0 cut with h | h
  · exact WireBytes_in w ht m A c ra oa a cut x ha hcut hx0 hx1 h
  · exact WireBytes_lo w ht m A c ra oa a cut x ha hcut hx0 hx1 h
end Go.Proofs.YtgcpofiecbpfbaaDoor

