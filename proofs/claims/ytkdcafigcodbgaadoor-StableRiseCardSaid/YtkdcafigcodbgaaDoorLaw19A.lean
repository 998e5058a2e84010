/- The walks of StableNone, StableEnd, StableRise. -/
import Derived.Test.YtkdcafigcodbgaaDoorStabK
import Derived.Test.YtkdcafigcodbgaaDoorInt
import Derived.WalkSmall
namespace Go.Proofs.YtkdcafigcodbgaaDoor
open Go.RowKit PStab

set_option maxRecDepth 100000 in
theorem StableNone_w (w : World) (ht : Tab w) : Calls Tryd.prog 6 #[] w fun e w' => e = .returned (.bool true) ∧ Below w.heap.size w w' := by
  go_enter Tryd.func6, Tryd.ntmps6
  go_wp2_with fail
  refine (begunS_c w ht).mono ?_
  rintro e w1 ⟨rfl, b1⟩
  go_wp2_with fail
  refine (start_nil w1).mono ?_
  rintro e w2 ⟨rfl, rfl⟩
  go_wp2_with fail
  refine (prom_nil w1 1).mono ?_
  rintro e w2 ⟨rfl, rfl⟩
  go_wp2_with fail
  refine (boot_nil w1).mono ?_
  rintro e w2 ⟨rfl, rfl⟩
  go_wp2_with fail
  refine (view_nil w1).mono ?_
  rintro e w2 ⟨rfl, rfl⟩
  go_wp2_with fail
  refine (bytes_nil w1).mono ?_
  rintro e w2 ⟨rfl, rfl⟩
  go_wp2_with fail
  go_ret
  exact ⟨rfl, b1⟩

set_option maxHeartbeats 1000000 in
set_option maxRecDepth 100000 in
theorem StableEnd_w (w : World) (ht : Tab w) (a : Int) (h1 : -9223372036854775808 ≤ a) (h2 : a ≤ 9223372036854775807) : Calls Tryd.prog 5 #[.int .i64 a] w fun e w' => e = .returned (.bool true) ∧ Below w.heap.size w w' := by
  rcases (by omega : a < 0 ∨ ¬ a < 0 ∧ 20 < a ∨ 0 ≤ a ∧ a ≤ 20) with k | ⟨k, k2⟩ | ⟨k, k2⟩
  · go_enter Tryd.func5, Tryd.ntmps5
    go_wp2_with fail
    refine (begunS_c w ht).mono ?_
    rintro e w1 ⟨rfl, b1⟩
    go_wp2_with fail
    go_ret
    exact ⟨rfl, b1⟩
  · go_enter Tryd.func5, Tryd.ntmps5
    go_wp2_with fail
    refine (begunS_c w ht).mono ?_
    rintro e w1 ⟨rfl, b1⟩
    go_wp2_with fail
    go_ret
    exact ⟨rfl, b1⟩
  · have OB := Lib.hid (show Ok (1099511627776 - a) from ⟨by omega, by omega⟩)
    have HD := Lib.hid (dec_yes OB.out ok_0)
    have l1 := Lib.hid (sev_fit OB.out.fit)
    have l2 := Lib.hid (sev_fit ok_0.fit)
    go_enter Tryd.func5, Tryd.ntmps5
    go_wp2_with fail
    refine (begunS_c w ht).mono ?_
    rintro e w1 ⟨rfl, b1⟩
    have B1 := Lib.hid b1
    clear b1
    go_wp2_with fail
    refine (rPut_c w1 (1099511627776 - a) OB.out.fit.1 OB.out.fit.2).mono ?_
    rintro e w2 ⟨A2, c2, rfl, ho2, b2⟩
    have O2 := Lib.hid ho2
    have B2 := Lib.hid (B1.out.trans (b2.mono B1.out.size))
    have S2 := Lib.hid b2.size
    clear ho2 b2
    go_wp2_with fail
    refine (rPut_c w2 0 (by decide) (by decide)).mono ?_
    rintro e w3 ⟨A3, c3, rfl, ho3, b3⟩
    have R3 := Lib.hid (Rd.of_own ho3)
    have O3 := Lib.hid (own_below O2.out (b3.mono (Nat.le_refl _)))
    have B3 := Lib.hid (B2.out.trans (b3.mono B2.out.size))
    have S3 := Lib.hid (Nat.le_trans S2.out b3.size)
    clear ho3 b3 O2 B2
    go_wp2_with (at_builtin; go_must (refine wpList_app rfl (.tmp 19) (.tmp 20) _ rfl w1.heap.size 5 _ 1 1 Tryd.underlying33 byte_info rfl (by omega) _ (PNum.sev (PNum.zig (1099511627776 - a))).length (bs (PNum.sev (PNum.zig (1099511627776 - a)))) rfl O3.out _ A3 c3 (PNum.sev (PNum.zig 0)).length (bs (PNum.sev (PNum.zig 0))) rfl R3.out (bs_one _) ?d1 ?d2 S3.out ?_))
    case d1 => have := l1.out; have := l2.out; unfold maxLen; omega
    case d2 => have := l1.out; have := l2.out; omega
    intro A4 c4 w4 ho4 hgrow4 b4
    have R4 := Lib.hid (show Rd w4 w4.heap.size A4 c4 1 ((PNum.sev (PNum.zig (1099511627776 - a))).length + (PNum.sev (PNum.zig 0)).length) (bs (body (1099511627776 - a) 0)) by unfold body; rw [bs_append]; exact Rd.of_own ho4)
    have B4 := Lib.hid (B3.out.trans (b4.mono B1.out.size))
    clear ho4 hgrow4 b4 O3 R3 B3
    generalize hN : (PNum.sev (PNum.zig (1099511627776 - a))).length + (PNum.sev (PNum.zig 0)).length = N at *
    have HN := Lib.hid (show N ≤ 20 by have := l1.out; have := l2.out; omega)
    clear hN
    go_wp2_with fail
    refine (rSeal_c w4 _ A4 c4 N _ R4.out (body_byte _ _) (by have := HN.out; omega)).mono ?_
    rintro e w5 ⟨A5, c5, rfl, ho5, b5⟩
    have R5 := Lib.hid (show Rd w5 w5.heap.size A5 c5 1 (N + 4) (bs (enc (1099511627776 - a) 0)) from Rd.of_own ho5)
    have B5 := Lib.hid (B4.out.trans (b5.mono B4.out.size))
    clear ho5 b5 R4 B4
    go_wp2_with fail
    refine (read_c w5 _ A5 c5 _ _ R5.out (enc_byte _ _) (ht.past B5.out) (by have := HN.out; omega)).mono ?_
    rw [HD.out]
    rintro e w6 ⟨g, rfl, hg, d6, b6⟩
    have S6 := Lib.hid (show Sd w w6 g (1099511627776 - a + (0 : Nat)) 0 from ⟨B5.out.trans (b6.mono B5.out.size), Nat.le_trans B5.out.size hg, by simpa using d6, by simpa using OB.out, ok_0⟩)
    clear hg d6 b6 R5 B5 B1 S2 S3 l1 l2 HD
    go_wp2_with fail
    go_loopw [6] (fun s6 wr => ∃ i : Nat, (i : Int) ≤ a ∧ s6 = .int .i64 i ∧ Hid (Sd w wr g (1099511627776 - a + i) 0)) (fun s6 _ => (a - intOf s6).toNat)
    case atStart => exact ⟨0, by omega, rfl, S6⟩
    case round =>
      clear S6
      obtain ⟨i, hi, rfl, HS⟩ := hrel
      by_cases hlt : (i : Int) < a
      · obtain ⟨x, hx⟩ : ∃ x, 1099511627776 - a + (i : Int) = x := ⟨_, rfl⟩
        have hx1 : x < 1099511627776 := by omega
        have hx2 : 0 ≤ x := by omega
        have HX := Lib.hid hx
        rw [hx] at HS
        clear hx
        have hne : (x + 1 == 0) = false := by simp; omega
        go_wp2_with fail
        refine (HS.out.start hx1).mono ?_
        rintro e w7 ⟨rfl, s7, -⟩
        have S7 := Lib.hid s7
        clear s7
        go_wp2_with fail
        go_roundw
        case rel => exact ⟨i + 1, by omega, by go_num, Lib.hid (by have e : 1099511627776 - a + ((i + 1 : Nat) : Int) = x + 1 := by have := HX.out; omega
                                                                   rw [e]; exact S7.out)⟩
        case measure => simp [intOf]; omega
      · have hia : (i : Int) = a := by omega
        have S7 := Lib.hid (show Sd w wr g 1099511627776 0 by have e : 1099511627776 - a + (i : Int) = 1099511627776 := by omega
                                                              rw [e] at HS; exact HS.out)
        clear hia HS
        go_wp2_with fail
        refine (start_end wr g 0 S7.out.ds).mono ?_
        rintro e w8 ⟨rfl, rfl⟩
        go_wp2_with fail
        refine (boot_c wr g _ _ S7.out.ds).mono ?_
        rintro e w8 ⟨rfl, rfl⟩
        go_wp2_with fail
        go_ret
        exact ⟨rfl, S7.out.bel⟩

set_option maxHeartbeats 1000000 in
set_option maxRecDepth 100000 in
theorem StableRise_w (w : World) (ht : Tab w) (A : Option Addr) (c n : Nat) (l : List Int) (h : Rd w w.heap.size A c 1 n (is l)) : Calls Tryd.prog 7 #[.slice A n c] w fun e w' => e = .returned (.bool true) ∧ Below w.heap.size w w' := by
  have HR := Lib.hid h
  clear h
  go_enter Tryd.func7, Tryd.ntmps7
  go_wp2_with fail
  refine (begunS_c w ht).mono ?_
  rintro e w1 ⟨rfl, b1⟩
  have S2 : Hid (Sd w (w1.alloc (.cells #[.int .i64 0, .int .i64 0] 27)) w1.heap.size 0 0) := Lib.hid
    ⟨b1.alloc b1.size _, b1.size, Blk.new w1 #[.int .i64 0, .int .i64 0] _, ok_0, ok_0⟩
  clear b1
  go_wp2_with fail
  generalize w1.alloc (.cells #[.int .i64 0, .int .i64 0] 27) = w2 at *
  generalize w1.heap.size = g at *
  go_loopw [5, 6] (fun s5 s6 wr => ∃ (i : Nat) (top : Int), i ≤ n ∧ i ≤ 30 ∧ s5 = .int .i64 top ∧ s6 = .int .i64 i ∧ Hid (Sd w wr g 0 top)) (fun _ s6 _ => n - (intOf s6).toNat)
  case atStart => exact ⟨0, 0, by omega, by omega, rfl, rfl, S2⟩
  case round =>
    clear S2
    obtain ⟨i, top, hin, hi30, rfl, rfl, HS⟩ := hrel
    by_cases hi1 : i < n
    · by_cases hi2 : i < 30
      · obtain ⟨b, o, x, rfl, hc, -, -⟩ := (HR.out.below HS.out.bel).int hi1
        rcases (by omega : x ≤ top ∨ top < x ∧ 1099511627776 < x ∨ top < x ∧ x ≤ 1099511627776) with k | ⟨k, k2⟩ | ⟨k, k2⟩
        · have HP := Lib.hid (show may top x = false ∧ put top x = top from ⟨may_no (by omega), put_no (by omega)⟩)
          go_wp2_with fail
          refine (HS.out.promise x).mono ?_
          rw [HP.out.1, HP.out.2]
          rintro e w3 ⟨rfl, s3, -⟩
          have S3 := Lib.hid s3
          clear s3 HS hc
          go_wp2_with fail
          refine (view_c w3 g _ _ S3.out.ds).mono ?_
          rintro e w4 ⟨rfl, rfl⟩
          go_wp2_with fail
          refine (boot_c w3 g _ _ S3.out.ds).mono ?_
          rintro e w4 ⟨rfl, rfl⟩
          go_wp2_with fail
          go_roundw
          case rel => exact ⟨i + 1, top, by omega, by omega, rfl, by go_num, S3⟩
          case measure => simp [intOf]; omega
        · have HP := Lib.hid (show may top x = false ∧ put top x = top from ⟨may_no (by omega), put_no (by omega)⟩)
          go_wp2_with fail
          refine (HS.out.promise x).mono ?_
          rw [HP.out.1, HP.out.2]
          rintro e w3 ⟨rfl, s3, -⟩
          have S3 := Lib.hid s3
          clear s3 HS hc
          go_wp2_with fail
          refine (view_c w3 g _ _ S3.out.ds).mono ?_
          rintro e w4 ⟨rfl, rfl⟩
          go_wp2_with fail
          refine (boot_c w3 g _ _ S3.out.ds).mono ?_
          rintro e w4 ⟨rfl, rfl⟩
          go_wp2_with fail
          go_roundw
          case rel => exact ⟨i + 1, top, by omega, by omega, rfl, by go_num, S3⟩
          case measure => simp [intOf]; omega
        · have HP := Lib.hid (show may top x = true ∧ put top x = x from ⟨may_yes ⟨k, k2⟩, put_yes ⟨k, k2⟩⟩)
          go_wp2_with fail
          refine (HS.out.promise x).mono ?_
          rw [HP.out.1, HP.out.2]
          rintro e w3 ⟨rfl, s3, -⟩
          have S3 := Lib.hid s3
          clear s3 HS hc
          go_wp2_with fail
          refine (view_c w3 g _ _ S3.out.ds).mono ?_
          rintro e w4 ⟨rfl, rfl⟩
          go_wp2_with fail
          refine (boot_c w3 g _ _ S3.out.ds).mono ?_
          rintro e w4 ⟨rfl, rfl⟩
          go_wp2_with fail
          go_roundw
          case rel => exact ⟨i + 1, x, by omega, by omega, rfl, by go_num, S3⟩
          case measure => simp [intOf]; omega
      · go_wp2_with fail
        go_ret
        exact ⟨rfl, HS.out.bel⟩
    · go_wp2_with fail
      go_ret
      exact ⟨rfl, HS.out.bel⟩
end Go.Proofs.YtkdcafigcodbgaaDoor
