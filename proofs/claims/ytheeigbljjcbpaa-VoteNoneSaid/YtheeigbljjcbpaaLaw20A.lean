/- The walks of VoteNone, VoteMay. -/
import Derived.Test.YtheeigbljjcbpaaVoteK
import Derived.Test.YtheeigbljjcbpaaVoteL
import Derived.Deep.CutRange
import Derived.Deep.MidRow
namespace Go.Proofs.Ytheeigbljjcbpaa
open Go.RowKit PVote

set_option maxHeartbeats 4000000 in
set_option maxRecDepth 100000 in
theorem VoteNone_w (w : World) : Calls Try.prog 6 #[] w fun e w' => e = .returned (.bool true) ∧ Below w.heap.size w w' := by
  go_enter Try.func6, Try.ntmps6
  go_wp2_with fail
  refine (vbest_nil w).mono ?_
  rintro e w1 ⟨A, c, he, b1⟩
  have he : e = .returned (.tuple #[.agg #[.int .i64 0, .int .i64 0, .slice A 0 c, .int .i64 0], .bool false]) := he
  subst he
  have B1 := Lib.hid (b1.alloc b1.size (.cells #[.int .i64 0, .int .i64 0, .slice A 0 c, .int .i64 0] 32))
  clear b1
  go_wp2_with fail
  generalize w1.alloc (.cells #[.int .i64 0, .int .i64 0, .slice A 0 c, .int .i64 0] 32) = w2 at *
  refine (begunV_c w2).mono ?_
  rintro e w3 ⟨rfl, b3⟩
  have B3 := Lib.hid (B1.out.trans (b3.mono B1.out.size))
  clear b3 B1
  go_wp2_with fail
  refine (vview_nil w3).mono ?_
  rintro e w4 ⟨rfl, rfl⟩
  go_wp2_with fail
  refine (show Calls _ _ #[_, vv ⟨1, 0, [], 0⟩ none 0] w3 _ from vadd_nil w3 ⟨1, 0, [], 0⟩ none 0).mono ?_
  rintro e w4 ⟨rfl, b4⟩
  have B4 := Lib.hid (B3.out.trans (b4.mono B3.out.size))
  clear b4 B3
  go_wp2_with fail
  refine (vteam_nil w4).mono ?_
  rintro e w5 ⟨rfl, rfl⟩
  go_wp2_with fail
  refine (venough_nil w4).mono ?_
  rintro e w5 ⟨rfl, b5⟩
  have B5 := Lib.hid (B4.out.trans (b5.mono B4.out.size))
  go_wp2_with fail
  go_ret
  exact ⟨rfl, B5.out⟩
end Go.Proofs.Ytheeigbljjcbpaa
