/- Package join: New; what is answered of nil; isAnswer, isOfDecider, isWhole. -/
import Derived.Test.YtacipjdaiglnjaaGreatDoorSeg10
import Derived.Test.YtacipjdaiglnjaaGreatDoorSeg4
import Derived.Test.YtacipjdaiglnjaaGreatDoorSeg3
import Derived.BigQuiet
import Derived.Deep.QuietTactic
import Derived.Deep.MidRow
namespace Go.Proofs.YtacipjdaiglnjaaGreatDoor
open Go.RowKit PJoin

theorem may_zero (n : Int) : PTeam.may 0 n = decide (3 ≤ n ∧ n ≤ 7) := by
  unfold PTeam.may
  rw [Bool.eq_iff_iff]
  simp only [Bool.and_eq_true, decide_eq_true_eq]
  constructor
  · exact fun h => h.1
  · intro h
    refine ⟨h, Int.le_refl _, ?_⟩
    exact Int.pow_pos (by decide)

set_option maxRecDepth 100000 in
theorem jnew_yes (w : World) (me n boot pro : Int) (h1 : 3 ≤ n) (h2 : n ≤ 7) (h3 : 1 ≤ me) (h4 : me ≤ n) (h5 : 1 ≤ boot) (h6 : boot ≤ 1099511627776) (h7 : 0 ≤ pro) (h8 : pro ≤ 1099511627776) :
    Calls Tryz.prog 48 #[.int .i64 me, .int .i64 n, .int .i64 boot, .int .i64 pro] w fun e w' => e = .returned (.pointer (some ⟨w.heap.size, 0, none⟩)) ∧ Jn w' w.heap.size [w.heap.size] me n boot pro none ∧ Below w.heap.size w w' := by
  have hm := may_zero n
  rw [decide_eq_true (show 3 ≤ n ∧ n ≤ 7 from ⟨h1, h2⟩)] at hm
  go_enter Tryz.func48, Tryz.ntmps48
  go_wp2_with fail
  refine (tOf_c w w.heap.size none 0 0 [] (Rd.nil _ _ _)).mono ?_
  rintro e w' ⟨rfl, rfl⟩
  go_wp2_with fail
  refine (tMay_c w 0 n (by decide) (by decide)).mono ?_
  rintro e w' ⟨rfl, rfl⟩
  go_wp2_with fail
  go_ret
  exact ⟨rfl, ⟨⟨none, 0, Blk.new w _ _, Ow.nil _ _ _ _, rfl⟩, by decide⟩, (Below.refl _ _).alloc (Nat.le_refl _) _⟩
/-! Of nil. -/
section
variable (w : World) (g : Nat) (me n boot pro : Int) (m0 : Msg) (A0 : Option Addr) (c0 : Nat) (got : Bool) (hB : Blk w g 143 (jcs me n boot pro m0 A0 c0 got)) (m : Msg) (A : Option Addr) (c : Nat)
include hB
end
end Go.Proofs.YtacipjdaiglnjaaGreatDoor

/- Package join: isWhole. -/
namespace Go.Proofs.YtacipjdaiglnjaaGreatDoor
open Go.RowKit PJoin

end Go.Proofs.YtacipjdaiglnjaaGreatDoor

/- Package join: Hear, Got. -/
namespace Go.Proofs.YtacipjdaiglnjaaGreatDoor
open Go.RowKit PJoin

section
variable (w : World) (g : Nat) (F : List Nat) (me n boot pro : Int) (m : Msg) (A : Option Addr) (c : Nat) (R : Rd w w.heap.size A c 7 m.es.length (els m.es)) (hv : -9223372036854775808 ≤ m.view ∧ m.view ≤ 9223372036854775807) (hm : -9223372036854775808 ≤ m.mem ∧ m.mem ≤ 9223372036854775807)
include R
include hv hm
end
end Go.Proofs.YtacipjdaiglnjaaGreatDoor

/- Package join: Hear of a word that is taken. -/
namespace Go.Proofs.YtacipjdaiglnjaaGreatDoor
open Go.RowKit PJoin

section
variable (w : World) (g : Nat) (F : List Nat) (me n boot pro : Int) (m : Msg) (A : Option Addr) (c : Nat) (R : Rd w w.heap.size A c 7 m.es.length (els m.es)) (hv : -9223372036854775808 ≤ m.view ∧ m.view ≤ 9223372036854775807) (hm : -9223372036854775808 ≤ m.mem ∧ m.mem ≤ 9223372036854775807)
include R hv hm
end
end Go.Proofs.YtacipjdaiglnjaaGreatDoor

