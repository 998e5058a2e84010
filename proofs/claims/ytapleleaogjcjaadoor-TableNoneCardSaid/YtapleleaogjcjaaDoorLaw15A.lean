/- The walk of TableNone. -/
import Derived.Test.YtapleleaogjcjaaDoorTabX
import Derived.Test.YtapleleaogjcjaaDoorLaid
namespace Go.Proofs.YtapleleaogjcjaaDoor
open Go.RowKit PTab

def nB : Ent := ⟨1, 1, 1, 0, 0, 0, ⟨#[97, 61, 98]⟩⟩
set_option maxHeartbeats 4000000 in
set_option maxRecDepth 100000 in
theorem TableNone_w (w : World) (ht : Tab w) :
    Calls Tryd.prog 5 #[] w fun x w' => x = .returned (.bool true) ∧ Below w.heap.size w w' := by
  have HT := Lib.hid ht
  clear ht
  go_enter Tryd.func5, Tryd.ntmps5
  go_wp2_with fail
  refine (GetNil_c w ⟨#[97]⟩).mono ?_
  rintro x w1 ⟨rfl, b1⟩
  have B1 := Lib.hid b1
  clear b1
  go_wp2_with fail
  refine (begun_c w1 (HT.out.past B1.out)).mono ?_
  rintro x w2 ⟨rfl, b2⟩
  have B2 := Lib.hid (B1.out.trans (b2.mono B1.out.size))
  clear b2 B1
  go_wp2_with fail
  refine (show Calls Tryd.prog _ #[_, .agg #[.int .i64 1, .int .i64 1, .int .i64 1, .int .i64 0, .int .i64 0, .int .i64 0, .string ⟨#[97, 61, 98]⟩]] w2 _ from DoNil_c w2 nB (by decide)).mono ?_
  rintro x w3 ⟨rfl, b3⟩
  have B3 := Lib.hid (B2.out.trans (b3.mono B2.out.size))
  clear b3 B2
  go_wp2_with fail
  refine (NamesNil_c w3).mono ?_
  rintro x w4 ⟨rfl, b4⟩
  have B4 := Lib.hid (B3.out.trans (b4.mono B3.out.size))
  clear b4 B3
  go_wp2_with fail
  refine (SumNil_c w4 (HT.out.past B4.out)).mono ?_
  rintro x w5 ⟨rfl, b5⟩
  have B5 := Lib.hid (B4.out.trans (b5.mono B4.out.size))
  clear b5 B4
  go_wp2_with fail
  go_ret
  exact ⟨rfl, B5.out⟩
end Go.Proofs.YtapleleaogjcjaaDoor
