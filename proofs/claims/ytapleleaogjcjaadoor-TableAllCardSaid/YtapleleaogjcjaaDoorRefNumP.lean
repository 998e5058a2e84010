/- Contract of curfewref1's PutText. -/
import Derived.Test.YtapleleaogjcjaaDoorRefNum
namespace Go.Proofs.YtapleleaogjcjaaDoor
open Go.RowKit

set_option maxRecDepth 100000 in
theorem rPutText_c (w : World) (s : ByteArray) (hs : s.size ≤ 500000000000) :
    Calls Tryd.prog 25 #[.string s] w fun e w' => ∃ A' c', e = .returned (.slice A' ((PNum.sev (PNum.zig s.size)).length + s.size) c') ∧
      w'.ownsRow w.heap.size 5 1 (.slice A' ((PNum.sev (PNum.zig s.size)).length + s.size) c') ((PNum.sev (PNum.zig s.size)).length + s.size) (bs (PNum.sev (PNum.zig s.size) ++ sb s)) ∧ Below w.heap.size w w' := by
  have hz : PNum.zig s.size < 18446744073709551616 := PNum.zig_lt _ (by omega) (by omega)
  have ht := PNum.sev_ten _ hz
  have HT := Lib.hid ht; clear ht
  clear hz
  go_enter Tryd.func25, Tryd.ntmps25
  go_wp2_with fail
  refine (rPut_c w s.size (by omega) (by omega)).mono ?_
  rintro e w1 ⟨A1, c1, rfl, hown1, hb1⟩
  have hsz := hb1.size
  go_wp2_with (at_builtin; go_must (refine wpList_appStr rfl (.tmp 5) (.tmp 6) _ _ rfl w.heap.size 5 Tryd.underlying45 Tryd.underlying9 byte_info _ _ _ rfl hown1 s rfl ?c1 ?c2 ?c3 ?_))
  case c1 => have := HT.out; unfold maxLen; omega
  case c2 => have := HT.out; omega
  case c3 => omega
  intro A3 c3 w3 hown3 hg3 hb3
  go_wp2_with fail
  go_ret
  refine ⟨A3, c3, rfl, ?_, hb1.trans hb3⟩
  rw [bs_append]
  exact hown3

end Go.Proofs.YtapleleaogjcjaaDoor
