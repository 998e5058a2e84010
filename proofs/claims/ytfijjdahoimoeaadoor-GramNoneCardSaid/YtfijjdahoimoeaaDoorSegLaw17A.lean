/- The walk of GramNone. -/
import Derived.Test.YtfijjdahoimoeaaDoorSeg13
namespace Go.Proofs.YtfijjdahoimoeaaDoor
open Go.RowKit

def nOne : Msg := ⟨13, 1, 0, 0, 0, 0, 0, 0, [], 0, 0, 0, false⟩
set_option maxHeartbeats 4000000 in
set_option maxRecDepth 100000 in
theorem GramNone_w (w : World) (ht : Tab w) : Calls Tryd.prog 5 #[] w fun e w' => e = .returned (.bool true) ∧ Below w.heap.size w w' := by
  have HT := Lib.hid ht
  clear ht
  go_enter Tryd.func5, Tryd.ntmps5
  go_wp2_with fail
  refine (show Calls _ _ _ w (fun x w' => x = .returned (.tuple #[.agg #[.int .i64 0, .int .i64 0, .int .i64 0, .int .i64 0, .int .i64 0, .int .i64 0, .int .i64 0, .int .i64 0, .slice none 0 0, .int .i64 0, .int .i64 0, .int .i64 0, .bool false], .int .i64 5]) ∧ Below w.heap.size w w') from hear_nil w none 0 0).mono ?_
  rintro x w1 ⟨rfl, b1⟩
  have b2 := b1.alloc b1.size (.cells #[.int .i64 0, .int .i64 0, .int .i64 0, .int .i64 0, .int .i64 0, .int .i64 0, .int .i64 0, .int .i64 0, .slice none 0 0, .int .i64 0, .int .i64 0, .int .i64 0, .bool false] 30)
  have BL2 := Lib.hid b2
  clear b1 b2
  go_wp2_with fail
  generalize w1.alloc (.cells #[.int .i64 0, .int .i64 0, .int .i64 0, .int .i64 0, .int .i64 0, .int .i64 0, .int .i64 0, .int .i64 0, .slice none 0 0, .int .i64 0, .int .i64 0, .int .i64 0, .bool false] 30) = w2 at *
  refine (sent_nil w2 1 1 1).mono ?_
  rintro x w3 ⟨rfl, rfl⟩
  go_wp2_with fail
  refine (show Calls _ _ #[_, .agg #[.int .i64 13, .int .i64 1, .int .i64 0, .int .i64 0, .int .i64 0, .int .i64 0, .int .i64 0, .int .i64 0, .slice none 0 0, .int .i64 0, .int .i64 0, .int .i64 0, .bool false], _, _] w2 _ from took_nil w2 nOne none 0 1 0).mono ?_
  rintro x w4 ⟨rfl, b4⟩
  have BL4 := Lib.hid (BL2.out.trans (b4.mono BL2.out.size))
  clear b4
  go_wp2_with fail
  refine (begunG_c w4 (HT.out.past BL4.out)).mono ?_
  rintro x w5 ⟨rfl, b5⟩
  have BL5 := Lib.hid (BL4.out.trans (b5.mono BL4.out.size))
  clear b5
  go_wp2_with fail
  refine (boot_nil w5 1).mono ?_
  rintro x w6 ⟨rfl, rfl⟩
  go_wp2_with fail
  go_ret
  exact ⟨rfl, BL5.out⟩
end Go.Proofs.YtfijjdahoimoeaaDoor

