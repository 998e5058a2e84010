/- Contracts of curfewref1's Put, PutText, Get, GetText. -/
import Derived.Test.YtkdcafigcodbgaaDoorNumV
namespace Go.Proofs.YtkdcafigcodbgaaDoor
open Go.RowKit

theorem zig_lib (x : Int) : Lib.zigzag x = PNum.zig x := by unfold Lib.zigzag PNum.zig; split <;> split <;> omega
theorem low_seven (v : Nat) : IntKind.u8.wrap ((v : Int) % 128 + 128) = ((v % 128 + 128 : Nat) : Int) := by rw [IntKind.wrap_u8']; omega

set_option maxRecDepth 100000 in
theorem rPut_c (w : World) (x : Int) (h1 : -9223372036854775808 ≤ x) (h2 : x ≤ 9223372036854775807) :
    Calls Tryd.prog 20 #[.int .i64 x] w fun e w' => ∃ A' c', e = .returned (.slice A' (PNum.sev (PNum.zig x)).length c') ∧
      w'.ownsRow w.heap.size 5 1 (.slice A' (PNum.sev (PNum.zig x)).length c') (PNum.sev (PNum.zig x)).length (bs (PNum.sev (PNum.zig x))) ∧ Below w.heap.size w w' := by
  have hz := PNum.zig_lt x h1 h2
  have hten := PNum.sev_ten _ hz
  have HT := Lib.hid hten; clear hten
  have HZ := Lib.hid hz; clear hz
  have hpos : ¬ x < 0 → IntKind.u64.wrap (IntKind.u64.wrap x * 2) = ((PNum.zig x : Nat) : Int) := by
    intro h
    rw [IntKind.wrap_u64, IntKind.wrap_u64]; unfold PNum.zig; rw [if_neg h]; omega
  have hneg : x < 0 → bits .xor .u64 IntKind.u64.max (IntKind.u64.wrap (IntKind.u64.wrap x * 2)) = ((PNum.zig x : Nat) : Int) := by
    intro h; rw [Lib.zigzag_neg h1 h, zig_lib]
  have hdbl : ¬ x < 0 → x * 2 = ((PNum.zig x : Nat) : Int) := by intro h; unfold PNum.zig; rw [if_neg h]; omega
  have HD := Lib.hid hdbl; clear hdbl
  generalize PNum.zig x = U at *
  by_cases hn : x < 0
  all_goals
    first | (have hU := hneg hn) | (have hU := hpos hn)
    clear hpos hneg
    go_enter Tryd.func20, Tryd.ntmps20
    go_wp2
    clear hU
    go_loopw [3, 4] (fun s3 s4 wr => ∃ (A' : Option Addr) (c' n' v : Nat) (m : List Int), s4 = .slice A' n' c' ∧ s3 = .int .u64 v ∧ v < 18446744073709551616 ∧ n' ≤ 10 ∧
        wr.ownsRow w.heap.size 5 1 (.slice A' n' c') n' (bs m) ∧ n' + (PNum.sev v).length = (PNum.sev U).length ∧ m ++ PNum.sev v = PNum.sev U ∧ Below w.heap.size w wr)
      (fun s3 _ _ => (intOf s3).toNat)
    case atStart => exact ⟨none, 0, 0, U, [], rfl, by first | rfl | exact congrArg (Value.int .u64) (HD.out hn), HZ.out, by omega, World.ownsRow_nil _ _ _ _, by simp, rfl, Below.refl _ _⟩
    case round =>
      obtain ⟨A', c', n', v, m, rfl, rfl, hv, hn', hown', hlen, hm, hbel⟩ := hrel
      have hq : IntKind.u64.wrap ((v : Int) / 128) = ((v / 128 : Nat) : Int) := by rw [IntKind.wrap_u64]; omega
      have HV := Lib.hid hv; clear hv
      have HL := Lib.hid hlen; clear hlen
      have HM := Lib.hid hm; clear hm
      have hsz := hbel.size
      by_cases hlt : 128 ≤ v
      · have hs := PNum.sev_hi hlt
        have HS := Lib.hid hs; clear hs
        have hb := low_seven v
        go_wp2_with (at_builtin; go_must (refine wpList_push rfl (.tmp 14) (.tmp 19) _ rfl w.heap.size 5 _ 1 Tryd.underlying33 byte_info rfl A' c' n' (bs m) rfl hown' rfl rfl ?c2 ?c3 ?c4 ?_))
        case c2 => unfold maxLen; omega
        case c3 => omega
        case c4 => omega
        intro A2 c2 w2 hown2 hgrow2 hbel2
        go_wp2
        go_roundw
        case rel =>
          have h1 := HL.out; have h2 := HM.out; have h3 := HS.out; have h4 := HT.out
          have h5 := PNum.sev_pos (v / 128)
          rw [h3] at h1 h2
          refine ⟨A2, c2, n' + 1, v / 128, m ++ [((v % 128 + 128 : Nat) : Int)], rfl, by go_num, by have := HV.out; omega, ?_, ?_, by simp at h1; omega, by simpa using h2, hbel.trans hbel2⟩
          · simp at h1; omega
          · simpa [bs] using hown2
        case measure => simp [intOf]; omega
      · go_wp2_with (at_builtin; go_must (refine wpList_push rfl (.tmp 23) (.tmp 26) _ rfl w.heap.size 5 _ 1 Tryd.underlying33 byte_info rfl A' c' n' (bs m) rfl hown' rfl rfl ?c2 ?c3 ?c4 ?_))
        case c2 => unfold maxLen; omega
        case c3 => omega
        case c4 => omega
        intro A2 c2 w2 hown2 hgrow2 hbel2
        go_wp2
        go_ret
        have h1 := HL.out; have h2 := HM.out
        rw [PNum.sev_lo (by omega)] at h1 h2
        simp at h1
        refine ⟨A2, c2, ?_, ?_, hbel.trans hbel2⟩
        · rw [← h1]; rfl
        · rw [← h1, ← h2]
          have e : ((v : Int) % 256) = v := by omega
          simpa [bs, e] using hown2

end Go.Proofs.YtkdcafigcodbgaaDoor
