/- Contract of num.Put. -/
import Derived.Test.YtkdcafigcodbgaaDoorNumA
namespace Go.Proofs.YtkdcafigcodbgaaDoor
open Go.RowKit

theorem Put_c (w : World) (B : Nat) (A : Option Addr) (c n : Nat) (l : List Int) (x : Int) (h : Rd w B A c 1 n (bs l)) (hn : n ≤ 1000000000000) (h1 : -9223372036854775808 ≤ x) (h2 : x ≤ 9223372036854775807) :
    Calls Tryd.prog 22 #[.slice A n c, .int .i64 x] w fun e w' => ∃ A' c', e = .returned (.slice A' (n + (PNum.sev (PNum.zig x)).length) c') ∧
      w'.ownsRow w.heap.size 5 1 (.slice A' (n + (PNum.sev (PNum.zig x)).length) c') (n + (PNum.sev (PNum.zig x)).length) (bs (l ++ PNum.sev (PNum.zig x))) ∧ Below w.heap.size w w' := by
  have HN := Lib.hid hn; clear hn
  have H1 := Lib.hid h1; clear h1
  have H2 := Lib.hid h2; clear h2
  go_enter Tryd.func22, Tryd.ntmps22
  go_wp2_with fail
  refine (withRoom_c w B A c n l 10 h (by have := HN.out; omega) (by omega) (by omega)).mono ?_
  rintro e w1 ⟨A1, c1, rfl, hown1, hb1⟩
  go_wp2_with fail
  refine (fold_c x w1 H1.out H2.out).mono ?_
  rintro e w2 ⟨rfl, rfl⟩
  go_wp2_with fail
  refine (appendSevens_c w1 w.heap.size A1 c1 n l (PNum.zig x) hown1 hb1.size (by have := HN.out; omega) (PNum.zig_lt x H1.out H2.out)).mono ?_
  rintro e w2 ⟨A2, c2, rfl, hown2, hb2⟩
  go_wp2_with fail
  go_ret
  exact ⟨A2, c2, rfl, hown2, hb1.trans hb2⟩
end Go.Proofs.YtkdcafigcodbgaaDoor
