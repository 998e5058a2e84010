/- The walk of WireTwins. -/
import Derived.Test.YtgcpofiecbpfbaaDoorSeg12
import Derived.Test.YtgcpofiecbpfbaaDoorSeg13
import Derived.Test.YtgcpofiecbpfbaaDoorSeg14
import Derived.Test.YtgcpofiecbpfbaaDoorSeg15
namespace Go.Proofs.YtgcpofiecbpfbaaDoor
open Go.RowKit

theorem WireTwins_w (w : World) (ht : Tab w) (m : Msg) (A : Option Addr) (c : Nat) (ra : Rd w w.heap.size A c 7 m.es.length (els m.es)) (oa : MsgOk m) (which : Int) :
    Calls Tryd.prog 6 #[mv m A c, .int .i64 which] w fun e w' => e = .returned (.bool true) ∧ Below w.heap.size w w' := by
  have q1 : -10 < Int.tmod which 10 := Int.lt_tmod_of_pos _ (by decide)
  have q2 : Int.tmod which 10 < 10 := Int.tmod_lt_of_pos _ (by decide)
  obtain ⟨q, h1⟩ : ∃ q, Int.tmod which 10 = q := ⟨_, rfl⟩
  rw [h1] at q1 q2
  have r1 : 0 ≤ Int.tmod (q + 10) 10 := Int.tmod_nonneg _ (by omega)
  have r2 : Int.tmod (q + 10) 10 < 10 := Int.tmod_lt_of_pos _ (by decide)
  obtain ⟨r, h2⟩ : ∃ r, Int.tmod (q + 10) 10 = r := ⟨_, rfl⟩
  rw [h2] at r1 r2
  have hr : r = 0 ∨ r = 1 ∨ r = 2 ∨ r = 3 ∨ r = 4 ∨ r = 5 ∨ r = 6 ∨ r = 7 ∨ r = 8 ∨ r = 9 := by omega
  rcases hr with rfl | rfl | rfl | rfl | rfl | rfl | rfl | rfl | rfl | rfl
  · exact WireTwins_0 w ht m A c ra oa which q h1 q1 q2 h2
  · exact WireTwins_1 w ht m A c ra oa which q h1 q1 q2 h2
  · exact WireTwins_2 w ht m A c ra oa which q h1 q1 q2 h2
  · exact WireTwins_3 w ht m A c ra oa which q h1 q1 q2 h2
  · exact WireTwins_4 w ht m A c ra oa which q h1 q1 q2 h2
  · exact WireTwins_5 w ht m A c ra oa which q h1 q1 q2 h2
  · exact WireTwins_6 w ht m A c ra oa which q h1 q1 q2 h2
  · exact WireTwins_7 w ht m A c ra oa which q h1 q1 q2 h2
  · exact WireTwins_8 w ht m A c ra oa which q h1 q1 q2 h2
  · exact WireTwins_9 w ht m A c ra oa which q h1 q1 q2 h2
end Go.Proofs.YtgcpofiecbpfbaaDoor

