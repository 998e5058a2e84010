/- The walk of NumAny. -/
import Derived.Test.YthafdgnpkfphoaaLaw1A
namespace Go.Proofs.Ythafdgnpkfphoaa
open Go.RowKit

set_option maxRecDepth 100000 in
theorem NumAny_w (w : World) (A : Option Addr) (c n : Nat) (l : List Int) (h : Rd w w.heap.size A c 1 n (bs l)) (hb : isB l) :
    Calls Try.prog 4 #[.slice A n c] w fun e w' => e = .returned (.bool true) ∧ Below w.heap.size w w' := by
  go_enter Try.func4, Try.ntmps4
  go_wp2_with fail
  refine (begun_c w).mono ?_
  rintro e w1 ⟨rfl, hb1⟩
  go_wp2_with fail
  refine (Short_c w1 _ A c n l 60 (h.past hb1) (by omega)).mono ?_
  rintro e w2 ⟨A2, c2, rfl, rfl, hr⟩
  have hb2 : isB (l.take (60 : Int).toNat) := hb.take _
  have hmin : min n (60 : Int).toNat ≤ 60 := Nat.min_le_right ..
  generalize l.take (60 : Int).toNat = m at *
  generalize min n (60 : Int).toNat = k at *
  go_wp2_with fail
  refine (Get_c w1 _ A2 c2 k m hr hb2).mono ?_
  rintro e w2 ⟨rfl, rfl⟩
  simp only [tup3]
  go_wp2_with fail
  refine (rGet_c w1 _ A2 c2 k m hr hb2).mono ?_
  rintro e w2 ⟨rfl, rfl⟩
  simp only [tup3]
  go_wp2_with fail
  refine (GetText_c w1 _ A2 c2 k m hr hb2 (by omega)).mono ?_
  rintro e w2 ⟨rfl, rfl⟩
  simp only [tupT]
  go_wp2_with fail
  refine (rGetText_c w1 _ A2 c2 k m hr hb2 (by omega)).mono ?_
  rintro e w2 ⟨rfl, rfl⟩
  simp only [tupT]
  go_wp2_with fail
  go_ret
  exact ⟨rfl, hb1⟩

end Go.Proofs.Ythafdgnpkfphoaa
