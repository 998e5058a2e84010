/- The walks of JoinNone, JoinAsk. -/
import Derived.Test.YtnpobagipgephaaJoinK
import Derived.Test.YtnpobagipgephaaWireE
namespace Go.Proofs.Ytnpobagipgephaa
open Go.RowKit PJoin

set_option maxHeartbeats 8000000 in
set_option maxRecDepth 100000 in
theorem JoinNone_w (w : World) : Calls Try.prog 4 #[] w fun e w' => e = .returned (.bool true) ∧ Below w.heap.size w w' := by
  go_enter Try.func4, Try.ntmps4
  go_wp2_with fail
  refine (jgot_nil w).mono ?_
  simp only [mv, zeroM]
  rintro e w1 ⟨rfl, b1⟩
  have N1 := Lib.hid (show Blk (w1.alloc (.cells #[.int .i64 0, .int .i64 0, .int .i64 0, .int .i64 0, .int .i64 0, .int .i64 0, .int .i64 0, .int .i64 0, .slice none 0 0, .int .i64 0, .int .i64 0, .int .i64 0, .bool false] 30)) w1.heap.size 30 (mcs zeroM none 0) from Blk.new w1 #[.int .i64 0, .int .i64 0, .int .i64 0, .int .i64 0, .int .i64 0, .int .i64 0, .int .i64 0, .int .i64 0, .slice none 0 0, .int .i64 0, .int .i64 0, .int .i64 0, .bool false] 30)
  have B2 := Lib.hid (b1.trans ((((Touch.of_below (S := [w1.heap.size]) ((Below.refl _ _).alloc (Nat.le_refl _) _)).trans (.of_grown (grown_row (w1.alloc (.cells #[.int .i64 0, .int .i64 0, .int .i64 0, .int .i64 0, .int .i64 0, .int .i64 0, .int .i64 0, .int .i64 0, .slice none 0 0, .int .i64 0, .int .i64 0, .int .i64 0, .bool false] 30)) w1.heap.size #[.int .i64 0, .int .i64 0, .int .i64 0, .int .i64 0, .int .i64 0, .int .i64 0, .int .i64 0, .int .i64 0, .slice none 0 0, .int .i64 0, .int .i64 0, .int .i64 0, .bool false]))).below (B := w1.heap.size) (by simp) (Nat.le_refl _)).mono b1.size))
  clear b1
  go_wp2_with ((with_reducible show wpList _ _ _ ((⟨none, Op.store 30 (.tmp 2) _, _, _, _, _⟩ : Oper) :: _) _ _); go_must (refine wpList_store_row rfl 30 (.tmp 2) (.tmp 7) rfl w1.heap.size _ rfl rfl _ _ N1.out (by kernel_rfl) (by rfl) (by kernel_rfl) ?_))
  clear N1
  generalize ((w1.alloc (.cells #[.int .i64 0, .int .i64 0, .int .i64 0, .int .i64 0, .int .i64 0, .int .i64 0, .int .i64 0, .int .i64 0, .slice none 0 0, .int .i64 0, .int .i64 0, .int .i64 0, .bool false] 30)).setRow w1.heap.size #[.int .i64 0, .int .i64 0, .int .i64 0, .int .i64 0, .int .i64 0, .int .i64 0, .int .i64 0, .int .i64 0, .slice none 0 0, .int .i64 0, .int .i64 0, .int .i64 0, .bool false]) = w2 at *
  refine (begunJ_c w2).mono ?_
  rintro e w3 ⟨rfl, b3⟩
  have B3 := Lib.hid (B2.out.trans (b3.mono B2.out.size))
  clear b3 B2
  go_wp2_with fail
  refine (jask_nil w3).mono ?_
  rintro e w4 ⟨rfl, rfl⟩
  go_wp2_with fail
  refine (show Calls Try.prog 11 #[.pointer none, .agg #[.int .i64 11, .int .i64 0, .int .i64 0, .int .i64 0, .int .i64 0, .int .i64 0, .int .i64 0, .int .i64 0, .slice none 0 0, .int .i64 0, .int .i64 0, .int .i64 0, .bool true]] w3 _ from jhear_nil w3 ⟨11, 0, 0, 0, 0, 0, 0, 0, [], 0, 0, 0, true⟩ none 0).mono ?_
  rintro e w4 ⟨rfl, b4⟩
  have B4 := Lib.hid (B3.out.trans (b4.mono B3.out.size))
  clear b4 B3
  go_wp2_with fail
  go_ret
  exact ⟨rfl, B4.out⟩

theorem asksP_at {me boot : Int} {n i : Nat} (h1 : 1 ≤ me) (hi : i < (asksP me boot n).length) : (asksP me boot n)[i]? = some ⟨askM me boot (if (i : Int) + 1 < me then (i : Int) + 1 else (i : Int) + 2), none, 0⟩ := by
  unfold asksP at hi ⊢
  rw [List.length_map] at hi
  rw [List.getElem?_map, asks_at h1 hi]
  rfl
theorem asksP_len {me boot : Int} {n : Nat} (h1 : 1 ≤ me) (hn : me ≤ n) : ((asksP me boot n).length : Int) = (n : Int) - 1 := by
  have := asks_ge h1 (boot := boot) hn
  unfold asksP
  rw [List.length_map]
  omega
set_option maxHeartbeats 8000000 in
set_option maxRecDepth 100000 in
theorem JoinAsk_w (w : World) (me n boot pro : Int) : Calls Try.prog 3 #[.int .i64 me, .int .i64 n, .int .i64 boot, .int .i64 pro] w fun e w' => e = .returned (.bool true) ∧ Below w.heap.size w w' := by
  rcases (by omega : n < 3 ∨ (3 ≤ n ∧ 7 < n) ∨ (3 ≤ n ∧ n ≤ 7 ∧ me < 1) ∨ (3 ≤ n ∧ n ≤ 7 ∧ 1 ≤ me ∧ n < me) ∨ (3 ≤ n ∧ n ≤ 7 ∧ 1 ≤ me ∧ me ≤ n ∧ boot < 1) ∨ (3 ≤ n ∧ n ≤ 7 ∧ 1 ≤ me ∧ me ≤ n ∧ 1 ≤ boot ∧ 1099511627776 < boot) ∨ (3 ≤ n ∧ n ≤ 7 ∧ 1 ≤ me ∧ me ≤ n ∧ 1 ≤ boot ∧ boot ≤ 1099511627776 ∧ pro < 0) ∨ (3 ≤ n ∧ n ≤ 7 ∧ 1 ≤ me ∧ me ≤ n ∧ 1 ≤ boot ∧ boot ≤ 1099511627776 ∧ 0 ≤ pro ∧ 1099511627776 < pro) ∨ (3 ≤ n ∧ n ≤ 7 ∧ 1 ≤ me ∧ me ≤ n ∧ 1 ≤ boot ∧ boot ≤ 1099511627776 ∧ 0 ≤ pro ∧ pro ≤ 1099511627776)) with k0 | ⟨k0, k1⟩ | ⟨k0, k1, k2⟩ | ⟨k0, k1, k2, k3⟩ | ⟨k0, k1, k2, k3, k4⟩ | ⟨k0, k1, k2, k3, k4, k5⟩ | ⟨k0, k1, k2, k3, k4, k5, k6⟩ | ⟨k0, k1, k2, k3, k4, k5, k6, k7⟩ | ⟨g0, g1, g2, g3, g4, g5, g6, g7⟩
  iterate 8
    · go_enter Try.func3, Try.ntmps3
      go_wp2_with fail
      refine (begunJ_c w).mono ?_
      rintro e w1 ⟨rfl, bb⟩
      go_wp2_with fail
      go_ret
      exact ⟨rfl, bb⟩
  · go_enter Try.func3, Try.ntmps3
    go_wp2_with fail
    refine (begunJ_c w).mono ?_
    rintro e w1 ⟨rfl, bb⟩
    go_wp2_with fail
    refine (Sj.new bb g0 g1 g2 g3 g4 g5 g6 g7).mono ?_
    rintro e w2 ⟨rfl, s2, -⟩
    obtain ⟨N, rfl⟩ : ∃ N : Nat, n = N := ⟨n.toNat, by omega⟩
    have S2 := Lib.hid s2
    clear bb s2
    go_wp2_with fail
    refine (S2.out.ask (n := N) (by omega)).mono ?_
    rintro e w3 ⟨A, c, rfl, ms, b3⟩
    have MS := Lib.hid ms
    have B3 := Lib.hid (S2.out.past b3).bel
    have hL := asksP_len (boot := boot) g2 g3
    have HAT := Lib.hid (fun i (hi : i < (asksP me boot N).length) => asksP_at (boot := boot) (n := N) g2 hi)
    clear ms b3 S2
    generalize asksP me boot N = Q at *
    generalize hq : Q.length = q at *
    have HQ := Lib.hid hq
    clear hq
    go_wp2_with fail
    go_loopw [11, 12] (fun s11 s12 wr => ∃ (i : Nat) (tt : Int), s11 = .int .i64 tt ∧ s12 = .int .i64 i ∧ i ≤ q ∧ (((i : Int) < me ∧ tt = i + 1) ∨ (me ≤ i ∧ tt = i + 2)) ∧ Hid (Below w3.heap.size w3 wr)) (fun _ s12 _ => q - (intOf s12).toNat)
    case atStart => exact ⟨0, 1, rfl, rfl, by omega, .inl ⟨by omega, by omega⟩, Lib.hid (Below.refl _ _)⟩
    case round =>
      obtain ⟨i, tt, rfl, rfl, hi, htt, BR⟩ := hrel
      by_cases hlt : i < q
      · have MR := MS.out.past BR.out
        obtain ⟨b, o, x, hA, -, hx, -, hr, -⟩ := MR.at_ (i := i) (by rw [HQ.out]; exact hlt)
        rw [HAT.out i hlt] at hx
        obtain rfl := Option.some.inj hx
        obtain ⟨d, hd⟩ : ∃ d, d = (if (i : Int) + 1 < me then (i : Int) + 1 else (i : Int) + 2) := ⟨_, rfl⟩
        rw [← hd] at hr
        have HR := Lib.hid hr
        subst hA
        clear hr hx MR
        have BW := Lib.hid (B3.out.trans (BR.out.mono B3.out.size))
        have hcase : ((tt = me) ∧ d = tt + 1) ∨ (tt ≠ me ∧ d = tt) := by
          rcases htt with ⟨h1, h2⟩ | ⟨h1, h2⟩
          · by_cases h3 : (i : Int) + 1 < me
            · rw [if_pos h3] at hd; right; omega
            · rw [if_neg h3] at hd; left; omega
          · rw [if_neg (by omega)] at hd; right; omega
        have hnext : (((i : Int) + 1 < me ∧ d + 1 = i + 2) ∨ (me ≤ (i : Int) + 1 ∧ d + 1 = i + 3)) := by
          by_cases h3 : (i : Int) + 1 < me
          · rw [if_pos h3] at hd; left; omega
          · rw [if_neg h3] at hd; right; omega
        have HNX := Lib.hid hnext
        have hdb : 1 ≤ d ∧ d ≤ 9 := by omega
        clear hd hnext htt
        have HEQ := Lib.hid (PMsg.eqM_refl (askM me boot d))
        rcases hcase with ⟨he, rfl⟩ | ⟨he, rfl⟩
        · have e1 : (tt == me) = true := by simpa using he
          clear he
          go_wp2_with ((with_reducible show wpList _ _ _ ((⟨some 72, Op.load _ _, _, _, _, _⟩ : Oper) :: _) _ _); go_must (refine wpList_load_mid rfl 30 (.tmp 71) rfl b (o + i * 13) rfl [.int .i64 10, .int .i64 me, .int .i64 (tt + 1), .int .i64 boot, .int .i64 0, .int .i64 0, .int .i64 0, .int .i64 0, .slice none 0 0, .int .i64 0, .int .i64 boot, .int .i64 0, .bool false] _ HR.out Try.underlying30 rfl (by kernel_rfl) ?_))
          refine (show Calls Try.prog 9 #[.agg #[.int .i64 10, .int .i64 me, .int .i64 (tt + 1), .int .i64 boot, .int .i64 0, .int .i64 0, .int .i64 0, .int .i64 0, .slice none 0 0, .int .i64 0, .int .i64 boot, .int .i64 0, .bool false], .agg #[.int .i64 10, .int .i64 me, .int .i64 (tt + 1), .int .i64 boot, .int .i64 0, .int .i64 0, .int .i64 0, .int .i64 0, .slice none 0 0, .int .i64 0, .int .i64 boot, .int .i64 0, .bool false]] wr _ from rEqM_c wr (askM me boot (tt + 1)) (askM me boot (tt + 1)) none none 0 0 (Rd.nil _ _ _) (Rd.nil _ _ _)).mono ?_
          rw [HEQ.out]
          rintro e w4 ⟨rfl, b4⟩
          have B4 := Lib.hid (BR.out.trans (b4.mono BR.out.size))
          clear b4
          go_wp2_with fail
          go_roundw
          case rel => exact ⟨i + 1, (tt + 1) + 1, by go_num, by go_num, by omega, by have := HNX.out; omega, B4⟩
          case measure => simp [intOf]; omega
        · have e1 : (d == me) = false := by simpa using he
          clear he
          go_wp2_with ((with_reducible show wpList _ _ _ ((⟨some 72, Op.load _ _, _, _, _, _⟩ : Oper) :: _) _ _); go_must (refine wpList_load_mid rfl 30 (.tmp 71) rfl b (o + i * 13) rfl [.int .i64 10, .int .i64 me, .int .i64 d, .int .i64 boot, .int .i64 0, .int .i64 0, .int .i64 0, .int .i64 0, .slice none 0 0, .int .i64 0, .int .i64 boot, .int .i64 0, .bool false] _ HR.out Try.underlying30 rfl (by kernel_rfl) ?_))
          refine (show Calls Try.prog 9 #[.agg #[.int .i64 10, .int .i64 me, .int .i64 d, .int .i64 boot, .int .i64 0, .int .i64 0, .int .i64 0, .int .i64 0, .slice none 0 0, .int .i64 0, .int .i64 boot, .int .i64 0, .bool false], .agg #[.int .i64 10, .int .i64 me, .int .i64 d, .int .i64 boot, .int .i64 0, .int .i64 0, .int .i64 0, .int .i64 0, .slice none 0 0, .int .i64 0, .int .i64 boot, .int .i64 0, .bool false]] wr _ from rEqM_c wr (askM me boot d) (askM me boot d) none none 0 0 (Rd.nil _ _ _) (Rd.nil _ _ _)).mono ?_
          rw [HEQ.out]
          rintro e w4 ⟨rfl, b4⟩
          have B4 := Lib.hid (BR.out.trans (b4.mono BR.out.size))
          clear b4
          go_wp2_with fail
          go_roundw
          case rel => exact ⟨i + 1, d + 1, by go_num, by go_num, by omega, by have := HNX.out; omega, B4⟩
          case measure => simp [intOf]; omega
      · obtain rfl : i = q := by omega
        go_wp2_with fail
        go_ret
        exact ⟨rfl, (B3.out.trans (BR.out.mono B3.out.size))⟩
end Go.Proofs.Ytnpobagipgephaa
