/- Contracts of fold, withRoom, appendSevens. -/
import Derived.Test.YtkdcafigcodbgaaDoorNumV
namespace Go.Proofs.YtkdcafigcodbgaaDoor
open Go.RowKit


theorem fold_c (n : Int) (w : World) (h1 : -9223372036854775808 ≤ n) (h2 : n ≤ 9223372036854775807) :
    Calls Tryd.prog 29 #[.int .i64 n] w fun e w' => e = .returned (.int .u64 (PNum.zig n)) ∧ w = w' := by
  have key : bits BinOp.xor IntKind.u64 (IntKind.u64.wrap (IntKind.u64.wrap n * 2)) (IntKind.u64.wrap (n / 9223372036854775808)) = (PNum.zig n : Int) := by
    by_cases hn : 0 ≤ n
    · have e : n / 9223372036854775808 = 0 := by omega
      have e2 : IntKind.u64.wrap (IntKind.u64.wrap n * 2) = ((2 * n).toNat : Int) := by rw [IntKind.wrap_u64, IntKind.wrap_u64]; omega
      rw [e, e2, show IntKind.u64.wrap 0 = ((0 : Nat) : Int) from rfl, bits_xor_u64_nat _ _ (by omega) (by omega), Nat.xor_zero]
      unfold PNum.zig; rw [if_neg (by omega)]
    · have e : n / 9223372036854775808 = -1 := by omega
      have e2 : IntKind.u64.wrap (IntKind.u64.wrap n * 2) = (((2 * n + 18446744073709551616).toNat : Nat) : Int) := by rw [IntKind.wrap_u64, IntKind.wrap_u64]; omega
      have e3 : IntKind.u64.wrap (-1) = ((2 ^ 64 - 1 : Nat) : Int) := by decide
      rw [e, e2, e3, bits_xor_u64_nat _ _ (by omega) (by decide), Nat.xor_comm, Lib.xor_ones64 _ (by omega)]
      unfold PNum.zig; rw [if_pos (by omega)]; omega
  have K := Lib.hid key; clear key
  go_enter Tryd.func29, Tryd.ntmps29
  go_wp2
  go_ret
  exact ⟨congrArg (fun x => Ending.returned (.int .u64 x)) K.out, rfl⟩
theorem withRoom_c (w : World) (B : Nat) (A : Option Addr) (c n : Nat) (l : List Int) (s : Int) (h : Rd w B A c 1 n (bs l)) (hn : n ≤ 1099511627776) (h0 : 0 ≤ s) (h1 : s ≤ 1099511627776) :
    Calls Tryd.prog 28 #[.slice A n c, .int .i64 s] w fun e w' => ∃ A' c', e = .returned (.slice A' n c') ∧
      w'.ownsRow w.heap.size 5 1 (.slice A' n c') n (bs l) ∧ Below w.heap.size w w' := by
  obtain ⟨i0, hi, hz0, hz1, hz2⟩ := info_parts byte_info
  obtain ⟨k, rfl⟩ := Int.eq_ofNat_of_zero_le h0
  have hlen := h.len
  go_enter Tryd.func28, Tryd.ntmps28
  go_wp2_with (at_make; refine wpList_make_own _ rfl _ _ 33 rfl w.heap.size 5 i0 (.int .u8 0) 1 Tryd.underlying33 hi hz0 hz1 _ _ _ (n + k) rfl rfl (by omega) ?b2 ?b3 (Nat.le_refl _) ?_)
  case b2 => rw [hz2]; omega
  case b3 => unfold maxLen; omega
  intro w0 hown0 hgrow0
  have hb0 : Below w.heap.size w w0 := (Below.refl _ _).grown hgrow0 (Nat.le_refl _) (fun k h => by cases h)
  have hr := h.past hb0
  go_wp2_with (at_builtin; refine wpList_app rfl (.tmp 9) (.tmp 10) _ rfl w.heap.size 5 _ 1 1 Tryd.underlying33 byte_info rfl (by omega) _ 0 [] rfl hown0 B A c n (bs l) rfl hr (bs_one l) (by unfold maxLen; omega) (by omega) hb0.size ?_)
  intro A' c' w1 hown1 hgrow1 hbel1
  go_wp2
  go_ret
  exact ⟨A', c', by simp, by simpa using hown1, hb0.trans hbel1⟩
set_option maxRecDepth 100000 in
theorem appendSevens_c (w : World) (base : Nat) (A : Option Addr) (c n : Nat) (l : List Int) (u : Nat) (hown : w.ownsRow base 5 1 (.slice A n c) n (bs l)) (hbase : base ≤ w.heap.size)
    (hn : n ≤ 1099511627776) (hu : u < 18446744073709551616) :
    Calls Tryd.prog 27 #[.slice A n c, .int .u64 u] w fun e w' => ∃ A' c', e = .returned (.slice A' (n + (PNum.sev u).length) c') ∧
      w'.ownsRow base 5 1 (.slice A' (n + (PNum.sev u).length) c') (n + (PNum.sev u).length) (bs (l ++ PNum.sev u)) ∧ Below base w w' := by
  have hten := PNum.sev_ten u hu
  go_enter Tryd.func27, Tryd.ntmps27
  go_wp2
  go_loopw [0, 1] (fun s0 s1 wr => ∃ (A' : Option Addr) (c' n' v : Nat) (m : List Int), s0 = .slice A' n' c' ∧ s1 = .int .u64 v ∧ v < 18446744073709551616 ∧ n' ≤ n + 10 ∧
      wr.ownsRow base 5 1 (.slice A' n' c') n' (bs (l ++ m)) ∧ n' + (PNum.sev v).length = n + (PNum.sev u).length ∧ m ++ PNum.sev v = PNum.sev u ∧ Below base w wr)
    (fun _ s1 _ => (intOf s1).toNat)
  case atStart => exact ⟨A, c, n, u, [], rfl, rfl, hu, by omega, by simpa using hown, rfl, rfl, Below.refl _ _⟩
  case round =>
    obtain ⟨A', c', n', v, m, rfl, rfl, hv, hn', hown', hlen, hm, hbel⟩ := hrel
    have HL := Lib.hid hlen; clear hlen
    have HM := Lib.hid hm; clear hm
    have hsz := hbel.size
    have HV := Lib.hid hv; clear hv
    have HU := Lib.hid hu; clear hu
    have HN := Lib.hid hn; clear hn
    by_cases hlt : 128 ≤ v
    · have hs := PNum.sev_hi hlt
      have HS := Lib.hid hs; clear hs
      have hb := seven_byte v
      have HB := Lib.hid hb; clear hb
      go_wp2_with (at_builtin; go_must (refine wpList_push rfl (.tmp 9) (.tmp 13) _ rfl base 5 _ 1 Tryd.underlying33 byte_info rfl A' c' n' (bs (l ++ m)) rfl hown' rfl rfl ?c2 ?c3 ?c4 ?_))
      case c2 => have := HN.out; unfold maxLen; omega
      case c3 => have := HN.out; omega
      case c4 => omega
      intro A2 c2 w2 hown2 hgrow2 hbel2
      rw [HB.out] at hown2
      go_wp2
      go_roundw
      case rel =>
        have h1 := HL.out; have h2 := HM.out; have h3 := HS.out; have h4 := HV.out
        rw [h3] at h1 h2
        refine ⟨A2, c2, n' + 1, v / 128, m ++ [((v % 128 + 128 : Nat) : Int)], rfl, by go_num, by omega, ?_, ?_, by simp at h1; omega, by simpa using h2, hbel.trans hbel2⟩
        · simp at h1; omega
        · simpa [bs] using hown2
      case measure => simp [intOf]; omega
    · go_wp2_with (at_builtin; go_must (refine wpList_push rfl (.tmp 15) (.tmp 18) _ rfl base 5 _ 1 Tryd.underlying33 byte_info rfl A' c' n' (bs (l ++ m)) rfl hown' rfl rfl ?c2 ?c3 ?c4 ?_))
      case c2 => have := HN.out; unfold maxLen; omega
      case c3 => have := HN.out; omega
      case c4 => omega
      intro A2 c2 w2 hown2 hgrow2 hbel2
      go_wp2
      go_ret
      have h1 := HL.out; have h2 := HM.out
      rw [PNum.sev_lo (by omega)] at h1 h2
      simp at h1
      refine ⟨A2, c2, ?_, ?_, hbel.trans hbel2⟩
      · rw [← h1]; rfl
      · rw [← h1, ← h2]
        have e : ((v : Int) % 256) = v := by omega
        simpa [bs, e] using hown2
end Go.Proofs.YtkdcafigcodbgaaDoor
