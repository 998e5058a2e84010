/- The walk of WireAny. -/
import Derived.Test.YtgcpofiecbpfbaaDoorSeg9
import Derived.Test.YtgcpofiecbpfbaaDoorSeg10
namespace Go.Proofs.YtgcpofiecbpfbaaDoor
open Go.RowKit

theorem WireAny_w (w : World) (ht : Tab w) (A : Option Addr) (c n : Nat) (l : List Int) (h : Rd w w.heap.size A c 1 n (bs l)) (hb : isB l) :
    Calls Tryd.prog 5 #[.slice A n c] w fun e w' => e = .returned (.bool true) ∧ Below w.heap.size w w' := by
  have HT := Lib.hid ht
  clear ht
  go_enter Tryd.func5, Tryd.ntmps5
  go_wp2_with fail
  refine (begunM_c w HT.out).mono ?_
  rintro e w1 ⟨rfl, hb1⟩
  go_wp2_with fail
  refine (Short_c w1 _ A c n l 150 (h.past hb1) (by omega)).mono ?_
  rintro e w2 ⟨A2, c2, rfl, rfl, hr⟩
  have hb2 : isB (l.take (150 : Int).toNat) := hb.take _
  have hmin : min n (150 : Int).toNat ≤ 150 := Nat.min_le_right ..
  generalize l.take (150 : Int).toNat = m at *
  generalize min n (150 : Int).toNat = k at *
  go_wp2_with fail
  refine (tellsM_c w1 _ A2 c2 k m hr hb2 (HT.out.past hb1) (by omega)).mono ?_
  rintro e w2 ⟨rfl, b2⟩
  go_wp2_with fail
  go_ret
  exact ⟨rfl, hb1.trans (b2.mono hb1.size)⟩
end Go.Proofs.YtgcpofiecbpfbaaDoor

