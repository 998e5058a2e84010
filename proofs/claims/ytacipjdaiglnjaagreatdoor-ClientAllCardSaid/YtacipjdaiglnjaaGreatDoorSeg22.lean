/- Contract of the document's May. -/
import Derived.Test.YtacipjdaiglnjaaGreatDoorRows
import Derived.Test.YtacipjdaiglnjaaGreatDoorSeg2
import Derived.Test.YtacipjdaiglnjaaGreatDoorSeg1
import Derived.Laws.StructEq
namespace Go.Proofs.YtacipjdaiglnjaaGreatDoor
open Go.RowKit

set_option maxHeartbeats 4000000 in
set_option maxRecDepth 100000 in
theorem rMay_c (w : World) (e : Ent) : Calls Tryz.prog 103 #[ev e] w fun x w' => x = .returned (.bool (PEnt.may e)) ∧ Below w.heap.size w w' := by
  obtain ⟨fr, boot, seq, ord, lev, stamp, data⟩ := e
  by_cases h0 : ¬ 1 ≤ fr
  · have HM := Lib.hid (show PEnt.may ⟨fr, boot, seq, ord, lev, stamp, data⟩ = false from decide_eq_false (fun h => h0 h.1.1))
    show Calls _ _ #[.agg #[.int .i64 fr, .int .i64 boot, .int .i64 seq, .int .i64 ord, .int .i64 lev, .int .i64 stamp, .string data]] _ _
    go_enter Tryz.func103, Tryz.ntmps103
    go_wp2_with fail
    go_ret
    exact ⟨by rw [HM.out]; rfl, (Below.refl _ _).alloc (Nat.le_refl _) _⟩
  replace h0 := Decidable.of_not_not h0
  by_cases h1 : ¬ fr ≤ 7
  · have HM := Lib.hid (show PEnt.may ⟨fr, boot, seq, ord, lev, stamp, data⟩ = false from decide_eq_false (fun h => h1 h.1.2))
    show Calls _ _ #[.agg #[.int .i64 fr, .int .i64 boot, .int .i64 seq, .int .i64 ord, .int .i64 lev, .int .i64 stamp, .string data]] _ _
    go_enter Tryz.func103, Tryz.ntmps103
    go_wp2_with fail
    go_ret
    exact ⟨by rw [HM.out]; rfl, (Below.refl _ _).alloc (Nat.le_refl _) _⟩
  replace h1 := Decidable.of_not_not h1
  by_cases h2 : ¬ 1 ≤ boot
  · have HM := Lib.hid (show PEnt.may ⟨fr, boot, seq, ord, lev, stamp, data⟩ = false from decide_eq_false (fun h => h2 h.2.1.1))
    show Calls _ _ #[.agg #[.int .i64 fr, .int .i64 boot, .int .i64 seq, .int .i64 ord, .int .i64 lev, .int .i64 stamp, .string data]] _ _
    go_enter Tryz.func103, Tryz.ntmps103
    go_wp2_with fail
    go_ret
    exact ⟨by rw [HM.out]; rfl, (Below.refl _ _).alloc (Nat.le_refl _) _⟩
  replace h2 := Decidable.of_not_not h2
  by_cases h3 : ¬ boot ≤ 1099511627776
  · have HM := Lib.hid (show PEnt.may ⟨fr, boot, seq, ord, lev, stamp, data⟩ = false from decide_eq_false (fun h => h3 h.2.1.2))
    show Calls _ _ #[.agg #[.int .i64 fr, .int .i64 boot, .int .i64 seq, .int .i64 ord, .int .i64 lev, .int .i64 stamp, .string data]] _ _
    go_enter Tryz.func103, Tryz.ntmps103
    go_wp2_with fail
    go_ret
    exact ⟨by rw [HM.out]; rfl, (Below.refl _ _).alloc (Nat.le_refl _) _⟩
  replace h3 := Decidable.of_not_not h3
  by_cases h4 : ¬ 1 ≤ seq
  · have HM := Lib.hid (show PEnt.may ⟨fr, boot, seq, ord, lev, stamp, data⟩ = false from decide_eq_false (fun h => h4 h.2.2.1.1))
    show Calls _ _ #[.agg #[.int .i64 fr, .int .i64 boot, .int .i64 seq, .int .i64 ord, .int .i64 lev, .int .i64 stamp, .string data]] _ _
    go_enter Tryz.func103, Tryz.ntmps103
    go_wp2_with fail
    go_ret
    exact ⟨by rw [HM.out]; rfl, (Below.refl _ _).alloc (Nat.le_refl _) _⟩
  replace h4 := Decidable.of_not_not h4
  by_cases h5 : ¬ seq ≤ 1099511627776
  · have HM := Lib.hid (show PEnt.may ⟨fr, boot, seq, ord, lev, stamp, data⟩ = false from decide_eq_false (fun h => h5 h.2.2.1.2))
    show Calls _ _ #[.agg #[.int .i64 fr, .int .i64 boot, .int .i64 seq, .int .i64 ord, .int .i64 lev, .int .i64 stamp, .string data]] _ _
    go_enter Tryz.func103, Tryz.ntmps103
    go_wp2_with fail
    go_ret
    exact ⟨by rw [HM.out]; rfl, (Below.refl _ _).alloc (Nat.le_refl _) _⟩
  replace h5 := Decidable.of_not_not h5
  by_cases h6 : ¬ 0 ≤ ord
  · have HM := Lib.hid (show PEnt.may ⟨fr, boot, seq, ord, lev, stamp, data⟩ = false from decide_eq_false (fun h => h6 h.2.2.2.1.1))
    show Calls _ _ #[.agg #[.int .i64 fr, .int .i64 boot, .int .i64 seq, .int .i64 ord, .int .i64 lev, .int .i64 stamp, .string data]] _ _
    go_enter Tryz.func103, Tryz.ntmps103
    go_wp2_with fail
    go_ret
    exact ⟨by rw [HM.out]; rfl, (Below.refl _ _).alloc (Nat.le_refl _) _⟩
  replace h6 := Decidable.of_not_not h6
  by_cases h7 : ¬ ord ≤ 2
  · have HM := Lib.hid (show PEnt.may ⟨fr, boot, seq, ord, lev, stamp, data⟩ = false from decide_eq_false (fun h => h7 h.2.2.2.1.2))
    show Calls _ _ #[.agg #[.int .i64 fr, .int .i64 boot, .int .i64 seq, .int .i64 ord, .int .i64 lev, .int .i64 stamp, .string data]] _ _
    go_enter Tryz.func103, Tryz.ntmps103
    go_wp2_with fail
    go_ret
    exact ⟨by rw [HM.out]; rfl, (Below.refl _ _).alloc (Nat.le_refl _) _⟩
  replace h7 := Decidable.of_not_not h7
  by_cases h8 : ¬ 0 ≤ lev
  · have HM := Lib.hid (show PEnt.may ⟨fr, boot, seq, ord, lev, stamp, data⟩ = false from decide_eq_false (fun h => h8 h.2.2.2.2.1.1))
    show Calls _ _ #[.agg #[.int .i64 fr, .int .i64 boot, .int .i64 seq, .int .i64 ord, .int .i64 lev, .int .i64 stamp, .string data]] _ _
    go_enter Tryz.func103, Tryz.ntmps103
    go_wp2_with fail
    go_ret
    exact ⟨by rw [HM.out]; rfl, (Below.refl _ _).alloc (Nat.le_refl _) _⟩
  replace h8 := Decidable.of_not_not h8
  by_cases h9 : ¬ lev ≤ 2
  · have HM := Lib.hid (show PEnt.may ⟨fr, boot, seq, ord, lev, stamp, data⟩ = false from decide_eq_false (fun h => h9 h.2.2.2.2.1.2))
    show Calls _ _ #[.agg #[.int .i64 fr, .int .i64 boot, .int .i64 seq, .int .i64 ord, .int .i64 lev, .int .i64 stamp, .string data]] _ _
    go_enter Tryz.func103, Tryz.ntmps103
    go_wp2_with fail
    go_ret
    exact ⟨by rw [HM.out]; rfl, (Below.refl _ _).alloc (Nat.le_refl _) _⟩
  replace h9 := Decidable.of_not_not h9
  by_cases h10 : ¬ 0 ≤ stamp
  · have HM := Lib.hid (show PEnt.may ⟨fr, boot, seq, ord, lev, stamp, data⟩ = false from decide_eq_false (fun h => h10 h.2.2.2.2.2.1.1))
    show Calls _ _ #[.agg #[.int .i64 fr, .int .i64 boot, .int .i64 seq, .int .i64 ord, .int .i64 lev, .int .i64 stamp, .string data]] _ _
    go_enter Tryz.func103, Tryz.ntmps103
    go_wp2_with fail
    go_ret
    exact ⟨by rw [HM.out]; rfl, (Below.refl _ _).alloc (Nat.le_refl _) _⟩
  replace h10 := Decidable.of_not_not h10
  by_cases h11 : ¬ stamp ≤ 1099511627776
  · have HM := Lib.hid (show PEnt.may ⟨fr, boot, seq, ord, lev, stamp, data⟩ = false from decide_eq_false (fun h => h11 h.2.2.2.2.2.1.2))
    show Calls _ _ #[.agg #[.int .i64 fr, .int .i64 boot, .int .i64 seq, .int .i64 ord, .int .i64 lev, .int .i64 stamp, .string data]] _ _
    go_enter Tryz.func103, Tryz.ntmps103
    go_wp2_with fail
    go_ret
    exact ⟨by rw [HM.out]; rfl, (Below.refl _ _).alloc (Nat.le_refl _) _⟩
  replace h11 := Decidable.of_not_not h11
  by_cases h12 : ¬ data.size ≤ 16
  · have HM := Lib.hid (show PEnt.may ⟨fr, boot, seq, ord, lev, stamp, data⟩ = false from decide_eq_false (fun h => h12 h.2.2.2.2.2.2))
    show Calls _ _ #[.agg #[.int .i64 fr, .int .i64 boot, .int .i64 seq, .int .i64 ord, .int .i64 lev, .int .i64 stamp, .string data]] _ _
    go_enter Tryz.func103, Tryz.ntmps103
    go_wp2_with fail
    go_ret
    exact ⟨by rw [HM.out]; show Ending.returned (.bool (decide ((data.size : Int) ≤ 16))) = _; rw [decide_eq_false (by omega)], (Below.refl _ _).alloc (Nat.le_refl _) _⟩
  replace h12 := Decidable.of_not_not h12
  have HM := Lib.hid (show PEnt.may ⟨fr, boot, seq, ord, lev, stamp, data⟩ = true from decide_eq_true ⟨⟨h0, h1⟩, ⟨h2, h3⟩, ⟨h4, h5⟩, ⟨h6, h7⟩, ⟨h8, h9⟩, ⟨h10, h11⟩, h12⟩)
  show Calls _ _ #[.agg #[.int .i64 fr, .int .i64 boot, .int .i64 seq, .int .i64 ord, .int .i64 lev, .int .i64 stamp, .string data]] _ _
  go_enter Tryz.func103, Tryz.ntmps103
  go_wp2_with fail
  go_ret
  exact ⟨by rw [HM.out]; show Ending.returned (.bool (decide ((data.size : Int) ≤ 16))) = _; rw [decide_eq_true (by omega)], (Below.refl _ _).alloc (Nat.le_refl _) _⟩
end Go.Proofs.YtacipjdaiglnjaaGreatDoor

