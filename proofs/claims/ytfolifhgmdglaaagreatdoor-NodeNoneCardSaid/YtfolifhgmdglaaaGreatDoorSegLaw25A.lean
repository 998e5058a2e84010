/- The walk of NodeNone. -/
import Derived.Test.YtfolifhgmdglaaaGreatDoorSeg22
namespace Go.Proofs.YtfolifhgmdglaaaGreatDoor
open Go.RowKit PNode

set_option maxHeartbeats 4000000 in
set_option maxRecDepth 100000 in
theorem NodeNone_w (w : World) (ht : Tab w) : Calls Tryz.prog 3 #[] w fun e w' => e = .returned (.bool true) ∧ Below w.heap.size w w' := by
  have HT := Lib.hid ht
  clear ht
  go_enter Tryz.func3, Tryz.ntmps3
  go_wp2_with fail
  refine (make_nil w 1 3 (by omega) (by omega) (by omega) (by omega)).mono ?_
  rintro e w1 ⟨rfl, rfl⟩
  go_wp2_with fail
  refine (make_n _ 1 8 _ (by omega)).mono ?_
  rintro e w1 ⟨rfl, rfl⟩
  have b1 := Lib.hid ((Below.refl w.heap.size w).alloc (Nat.le_refl _) (.cells #[.int .i64 0, .int .i64 0] 28))
  generalize w.alloc (.cells #[.int .i64 0, .int .i64 0] 28) = w1 at *
  have HT1 := Lib.hid (HT.out.past b1.out)
  go_wp2_with fail
  refine (ndView_nil w1).mono ?_
  rintro e w2 ⟨rfl, rfl⟩
  go_wp2_with fail
  refine (begunN_c w1 HT1.out).mono ?_
  rintro e w2 ⟨rfl, b2⟩
  have b2' := Lib.hid (b1.out.trans (b2.mono b1.out.size))
  clear b2
  go_wp2_with fail
  refine (ndTick_nil w2).mono ?_
  rintro e w3 ⟨rfl, rfl⟩
  go_wp2_with fail
  refine (ndHear_nil w2).mono ?_
  rintro e w3 ⟨rfl, rfl⟩
  go_wp2_with fail
  refine (ndCast_nil w2).mono ?_
  rintro e w3 ⟨rfl, rfl⟩
  go_wp2_with fail
  refine (ndGood_nil w2).mono ?_
  rintro e w3 ⟨rfl, b3⟩
  have b3' := Lib.hid (b2'.out.trans (b3.mono b2'.out.size))
  clear b3
  go_wp2_with fail
  refine (ndTold_nil w3).mono ?_
  rintro e w4 ⟨rfl, rfl⟩
  go_wp2_with fail
  refine (ndLog_nil w3).mono ?_
  rintro e w4 ⟨rfl, rfl⟩
  go_wp2_with fail
  refine (ndCommit_nil w3).mono ?_
  rintro e w4 ⟨rfl, rfl⟩
  go_wp2_with fail
  refine (ndClock_nil w3).mono ?_
  rintro e w4 ⟨rfl, rfl⟩
  go_wp2_with fail
  refine (ndBoot_nil w3).mono ?_
  rintro e w4 ⟨rfl, rfl⟩
  go_wp2_with fail
  refine (ndKnows_nil w3).mono ?_
  rintro e w4 ⟨rfl, rfl⟩
  go_wp2_with fail
  refine (ndLast_nil w3).mono ?_
  rintro e w4 ⟨rfl, rfl⟩
  go_wp2_with fail
  refine (ndWaits_nil w3).mono ?_
  rintro e w4 ⟨rfl, rfl⟩
  go_wp2_with fail
  go_ret
  exact ⟨rfl, b3'.out⟩
end Go.Proofs.YtfolifhgmdglaaaGreatDoor

