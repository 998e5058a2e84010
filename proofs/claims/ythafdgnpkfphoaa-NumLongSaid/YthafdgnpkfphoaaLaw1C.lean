/- The walks of NumLong, NumCut. -/
import Derived.Test.YthafdgnpkfphoaaLaw1A
namespace Go.Proofs.Ythafdgnpkfphoaa
open Go.RowKit

theorem or128_byte (f : Int) (h0 : 0 ≤ f) (h1 : f < 256) : 0 ≤ bits BinOp.or IntKind.u8 f 128 ∧ bits BinOp.or IntKind.u8 f 128 < 256 := by
  rw [u8_or _ _ h0 h1 (by omega) (by omega)]
  have := Nat.or_lt_two_pow (n := 8) (x := f.toNat) (y := (128 : Int).toNat) (by omega) (by decide)
  omega

set_option maxRecDepth 100000 in
theorem NumLong_w (w : World) (n last fill : Int) (hl0 : 0 ≤ last) (hl1 : last < 256) (hf0 : 0 ≤ fill) (hf1 : fill < 256) :
    Calls Try.prog 5 #[.int .i64 n, .int .u8 last, .int .u8 fill] w fun e w' => e = .returned (.bool true) ∧ Below w.heap.size w w' := by
  by_cases hn : n < 0 ∨ 14 < n
  · rcases hn with hn | hn
    · go_enter Try.func5, Try.ntmps5
      go_wp2_with fail
      refine (begun_c w).mono ?_
      rintro e w1 ⟨rfl, hb1⟩
      go_wp2_with fail
      go_ret
      exact ⟨rfl, hb1⟩
    · have h0 : ¬ n < 0 := by omega
      go_enter Try.func5, Try.ntmps5
      go_wp2_with fail
      refine (begun_c w).mono ?_
      rintro e w1 ⟨rfl, hb1⟩
      go_wp2_with fail
      go_ret
      exact ⟨rfl, hb1⟩
  · obtain ⟨k, rfl⟩ := Int.eq_ofNat_of_zero_le (show 0 ≤ n by omega)
    have hk : k ≤ 14 := by omega
    clear hn
    have hby := or128_byte fill hf0 hf1
    obtain ⟨g, hg⟩ : ∃ g, bits BinOp.or IntKind.u8 fill 128 = g := ⟨_, rfl⟩
    rw [hg] at hby
    go_enter Try.func5, Try.ntmps5
    go_wp2_with fail
    refine (begun_c w).mono ?_
    rintro e w1 ⟨rfl, hb1⟩
    go_wp2_with fail
    go_loopw [8, 9] (fun s8 s9 wr => ∃ (A : Option Addr) (c i : Nat), s8 = .slice A i c ∧ s9 = .int .i64 i ∧ i ≤ k ∧ wr.ownsRow w.heap.size 5 1 (.slice A i c) i (bs (List.replicate i g)) ∧ Below w.heap.size w wr)
      (fun _ s9 _ => k - (intOf s9).toNat)
    case atStart => exact ⟨none, 0, 0, rfl, rfl, by omega, World.ownsRow_nil _ _ _ _, hb1⟩
    case round =>
      obtain ⟨A, c, i, rfl, rfl, hi, hown, hbel⟩ := hrel
      have hsz := hbel.size
      by_cases hlt : i < k
      · go_wp2_with (at_builtin; go_must (refine wpList_push rfl (.tmp 30) (.tmp 33) _ rfl w.heap.size 5 _ 1 Try.underlying22 byte_info rfl A c i _ rfl hown rfl rfl ?c2 ?c3 ?c4 ?_))
        case c2 => unfold maxLen; omega
        case c3 => omega
        case c4 => omega
        intro A2 c2 w2 hown2 hgrow2 hbel2
        go_wp2
        go_roundw
        case rel =>
          refine ⟨A2, c2, i + 1, rfl, by go_num, by omega, ?_, hbel.trans hbel2⟩
          rw [List.replicate_succ', bs_append]
          exact hown2
        case measure => simp [intOf]; omega
      · obtain rfl : i = k := by omega
        clear hlt
        go_wp2_with (at_builtin; go_must (refine wpList_push rfl (.tmp 35) (.tmp 37) _ rfl w.heap.size 5 _ 1 Try.underlying22 byte_info rfl A c i _ rfl hown rfl rfl ?c2 ?c3 ?c4 ?_))
        case c2 => unfold maxLen; omega
        case c3 => omega
        case c4 => omega
        intro A2 c2 w2 hown2 hgrow2 hbel2
        have hr : Rd w2 w2.heap.size A2 c2 1 (i + 1) (bs (List.replicate i g ++ [last])) := by rw [bs_append]; exact Rd.of_own hown2
        have hB : isB (List.replicate i g ++ [last]) := by
          refine isB.append (fun x hx => ?_) (fun x hx => ?_)
          · obtain rfl := List.eq_of_mem_replicate hx; exact hby
          · simp at hx; omega
        generalize List.replicate i g ++ [last] = m at *
        go_wp2_with fail
        refine (Get_c w2 _ A2 c2 (i + 1) m hr hB).mono ?_
        rintro e w3 ⟨rfl, rfl⟩
        simp only [tup3]
        go_wp2_with fail
        refine (rGet_c w2 _ A2 c2 (i + 1) m hr hB).mono ?_
        rintro e w3 ⟨rfl, rfl⟩
        simp only [tup3]
        go_wp2_with fail
        go_ret
        exact ⟨rfl, hbel.trans hbel2⟩

end Go.Proofs.Ythafdgnpkfphoaa
