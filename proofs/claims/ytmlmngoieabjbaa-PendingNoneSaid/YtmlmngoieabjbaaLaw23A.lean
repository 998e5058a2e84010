/- Walk of curfewlaw23.PendingNone. -/
import Derived.Test.YtmlmngoieabjbaaPendK
namespace Go.Proofs.Ytmlmngoieabjbaa
open Go.RowKit PPend

set_option maxHeartbeats 4000000 in
set_option maxRecDepth 100000 in
theorem PendingNone_w (w : World) : Calls Try.prog 4 #[] w fun e w' => e = .returned (.bool true) ∧ Below w.heap.size w w' := by
  go_enter Try.func4, Try.ntmps4
  go_wp2_with fail
  refine (padd_nil w 0 0 ⟨#[]⟩).mono ?_
  simp only [ev, zeroE]
  rintro x w1 ⟨rfl, b1⟩
  have B2 := Lib.hid (b1.alloc b1.size (.cells #[.int .i64 0, .int .i64 0, .int .i64 0, .int .i64 0, .int .i64 0, .int .i64 0, .string ⟨#[]⟩] 35))
  clear b1
  go_wp2_with fail
  generalize w1.alloc (.cells #[.int .i64 0, .int .i64 0, .int .i64 0, .int .i64 0, .int .i64 0, .int .i64 0, .string ⟨#[]⟩] 35) = w2 at *
  refine (begunN_c w2).mono ?_
  rintro x w3 ⟨rfl, b3⟩
  have B3 := Lib.hid (B2.out.trans (b3.mono B2.out.size))
  clear b3 B2
  go_wp2_with fail
  refine (pdone_nil w3 none 0 0).mono ?_
  rintro x w4 ⟨rfl, b4⟩
  have B4 := Lib.hid (B3.out.trans (b4.mono B3.out.size))
  clear b4 B3
  go_wp2_with fail
  refine (plist_nil w4).mono ?_
  rintro x w5 ⟨rfl, rfl⟩
  go_wp2_with fail
  refine (plen_nil w4).mono ?_
  rintro x w5 ⟨rfl, rfl⟩
  go_wp2_with fail
  go_ret
  exact ⟨rfl, B4.out⟩
end Go.Proofs.Ytmlmngoieabjbaa
