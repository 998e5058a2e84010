/- The walk of EntryAny. -/
import Derived.Test.YtoflbgmmnljloaaEntJ
import Derived.Test.YtoflbgmmnljloaaEntK
import Derived.Test.YtoflbgmmnljloaaShort
namespace Go.Proofs.Ytoflbgmmnljloaa
open Go.RowKit

theorem EntryAny_w (w : World) (A : Option Addr) (c n : Nat) (l : List Int) (h : Rd w w.heap.size A c 1 n (bs l)) (hb : isB l) :
    Calls Try.prog 5 #[.slice A n c] w fun e w' => e = .returned (.bool true) ∧ Below w.heap.size w w' := by
  go_enter Try.func5, Try.ntmps5
  go_wp2_with fail
  refine (begun_c w).mono ?_
  rintro e w1 ⟨rfl, hb1⟩
  go_wp2_with fail
  refine (Short_c w1 _ A c n l 100 (h.past hb1) (by omega)).mono ?_
  rintro e w2 ⟨A2, c2, rfl, rfl, hr⟩
  have hb2 : isB (l.take (100 : Int).toNat) := hb.take _
  have hmin : min n (100 : Int).toNat ≤ 100 := Nat.min_le_right ..
  generalize l.take (100 : Int).toNat = m at *
  generalize min n (100 : Int).toNat = k at *
  go_wp2_with fail
  refine (tells_c w1 _ A2 c2 k m hr hb2 (by omega)).mono ?_
  rintro e w2 ⟨rfl, b2⟩
  go_wp2_with fail
  go_ret
  exact ⟨rfl, hb1.trans (b2.mono hb1.size)⟩
end Go.Proofs.Ytoflbgmmnljloaa
