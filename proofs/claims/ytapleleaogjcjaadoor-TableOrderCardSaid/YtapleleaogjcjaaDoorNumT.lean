/- Contract of PutText. -/
import Derived.Test.YtapleleaogjcjaaDoorNumA
namespace Go.Proofs.YtapleleaogjcjaaDoor
open Go.RowKit

theorem PutText_c (w : World) (B : Nat) (A : Option Addr) (c n : Nat) (l : List Int) (s : ByteArray) (h : Rd w B A c 1 n (bs l)) (hn : n ≤ 500000000000) (hs : s.size ≤ 500000000000) :
    Calls Tryd.prog 31 #[.slice A n c, .string s] w fun e w' => ∃ A' c', e = .returned (.slice A' (n + (PNum.sev (PNum.zig s.size)).length + s.size) c') ∧
      w'.ownsRow w.heap.size 5 1 (.slice A' (n + (PNum.sev (PNum.zig s.size)).length + s.size) c') (n + (PNum.sev (PNum.zig s.size)).length + s.size) (bs (l ++ PNum.sev (PNum.zig s.size) ++ sb s)) ∧ Below w.heap.size w w' := by
  have HN := Lib.hid hn; clear hn
  have hz : PNum.zig s.size < 18446744073709551616 := PNum.zig_lt _ (by omega) (by omega)
  have ht := PNum.sev_ten _ hz
  have HT := Lib.hid ht; clear ht
  have HZ := Lib.hid hz; clear hz
  go_enter Tryd.func31, Tryd.ntmps31
  go_wp2_with fail
  refine (withRoom_c w B A c n l _ h (by have := HN.out; omega) (by omega) (by omega)).mono ?_
  rintro e w1 ⟨A1, c1, rfl, hown1, hb1⟩
  go_wp2_with fail
  refine (fold_c s.size w1 (by omega) (by omega)).mono ?_
  rintro e w2 ⟨rfl, rfl⟩
  go_wp2_with fail
  refine (appendSevens_c w1 w.heap.size A1 c1 n l (PNum.zig s.size) hown1 hb1.size (by have := HN.out; omega) HZ.out).mono ?_
  rintro e w2 ⟨A2, c2, rfl, hown2, hb2⟩
  have hsz := hb1.size
  have hsz2 := hb2.size
  go_wp2_with (at_builtin; go_must (refine wpList_appStr rfl (.tmp 15) (.tmp 16) _ _ rfl w.heap.size 5 Tryd.underlying45 Tryd.underlying9 byte_info _ _ _ rfl hown2 s rfl ?c1 ?c2 ?c3 ?_))
  case c1 => have := HN.out; have := HT.out; unfold maxLen; omega
  case c2 => have := HN.out; have := HT.out; omega
  case c3 => omega
  intro A3 c3 w3 hown3 hg3 hb3
  go_wp2_with fail
  go_ret
  refine ⟨A3, c3, rfl, ?_, (hb1.trans hb2).trans hb3⟩
  rw [bs_append]
  exact hown3

end Go.Proofs.YtapleleaogjcjaaDoor
