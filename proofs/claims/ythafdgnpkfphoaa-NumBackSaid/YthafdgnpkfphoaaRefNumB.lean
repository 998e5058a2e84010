/- Contracts of curfewref1's PutText, Get. -/
import Derived.Test.YthafdgnpkfphoaaRefNum
namespace Go.Proofs.Ythafdgnpkfphoaa
open Go.RowKit

set_option maxRecDepth 100000 in
theorem rPutText_c (w : World) (s : ByteArray) (hs : s.size ≤ 500000000000) :
    Calls Try.prog 14 #[.string s] w fun e w' => ∃ A' c', e = .returned (.slice A' ((PNum.sev (PNum.zig s.size)).length + s.size) c') ∧
      w'.ownsRow w.heap.size 5 1 (.slice A' ((PNum.sev (PNum.zig s.size)).length + s.size) c') ((PNum.sev (PNum.zig s.size)).length + s.size) (bs (PNum.sev (PNum.zig s.size) ++ sb s)) ∧ Below w.heap.size w w' := by
  have hz : PNum.zig s.size < 18446744073709551616 := PNum.zig_lt _ (by omega) (by omega)
  have ht := PNum.sev_ten _ hz
  have HT := Lib.hid ht; clear ht
  clear hz
  go_enter Try.func14, Try.ntmps14
  go_wp2_with fail
  refine (rPut_c w s.size (by omega) (by omega)).mono ?_
  rintro e w1 ⟨A1, c1, rfl, hown1, hb1⟩
  have hsz := hb1.size
  go_wp2_with (at_builtin; go_must (refine wpList_appStr rfl (.tmp 5) (.tmp 6) _ _ rfl w.heap.size 5 Try.underlying22 Try.underlying9 byte_info _ _ _ rfl hown1 s rfl ?c1 ?c2 ?c3 ?_))
  case c1 => have := HT.out; unfold maxLen; omega
  case c2 => have := HT.out; omega
  case c3 => omega
  intro A3 c3 w3 hown3 hg3 hb3
  go_wp2_with fail
  go_ret
  refine ⟨A3, c3, rfl, ?_, hb1.trans hb3⟩
  rw [bs_append]
  exact hown3

theorem gatherW (acc i W : Nat) (x : Int) (h0 : 0 ≤ x) (hi : i ≤ 9) (h9 : ¬ (i = 9 ∧ 1 < x)) (ha : acc < 128 ^ i) (hW : W = 128 ^ i) :
    IntKind.u64.wrap ((acc : Int) + IntKind.u64.wrap (x % 128 * (W : Int))) = ((acc + (x.toNat % 128) * 128 ^ i : Nat) : Int) := by
  have h1 := room i x hi h9
  have h2 := accU acc i x hi h9 ha
  subst hW
  have e : x % 128 * ((128 ^ i : Nat) : Int) = ((x.toNat % 128 * 128 ^ i : Nat) : Int) := by
    rw [Int.natCast_mul]; congr 1; omega
  rw [e, IntKind.wrap_u64, IntKind.wrap_u64]
  omega

set_option maxRecDepth 100000 in
theorem rGet_c (w : World) (B : Nat) (A : Option Addr) (c n : Nat) (l : List Int) (h : Rd w B A c 1 n (bs l)) (hb : isB l) :
    Calls Try.prog 17 #[.slice A n c] w fun e w' => e = .returned (tup3 (PNum.getB 0 0 l)) ∧ w = w' := by
  have hlen := h.blen
  have HL := Lib.hid hlen; clear hlen
  have hm := h.le
  have hm2 := h.cap
  have hn : n ≤ 9223372036854775807 := by unfold maxLen at hm2; omega
  clear hm hm2
  go_enter Try.func17, Try.ntmps17
  go_wp2
  go_loop [5, 6, 7] (fun s5 s6 s7 => ∃ (i acc W : Nat), s5 = .int .u64 acc ∧ s6 = .int .u64 W ∧ s7 = .int .i64 i ∧ i ≤ n ∧ i ≤ 9 ∧ acc < 128 ^ i ∧ W = 128 ^ i ∧ PNum.getB i acc (l.drop i) = PNum.getB 0 0 l)
    (fun _ _ s7 => n - (intOf s7).toNat)
  case atStart => exact ⟨0, 0, 1, rfl, rfl, rfl, by omega, by omega, by decide, rfl, rfl⟩
  case round =>
    obtain ⟨i, acc, W, rfl, rfl, rfl, hi, hi9, hacc, hW, hg⟩ := hrel
    have HG := Lib.hid hg; clear hg
    have HA := Lib.hid hacc; clear hacc
    have HW := Lib.hid hW; clear hW
    by_cases hlt : i < n
    · obtain ⟨b, o, x, rfl, hc, hd, hx0, hx1, hxl⟩ := h.byte hb hlt
      clear hxl
      have HD := Lib.hid hd; clear hd
      by_cases h9 : i = 9 ∧ 1 < x
      · obtain ⟨rfl, h1⟩ := h9
        go_wp2
        go_ret3
        refine ⟨?_, rfl⟩
        rw [← HG.out, HD.out, PNum.getB, if_pos ⟨rfl, h1⟩]; rfl
      · by_cases h0 : x = 0 ∧ 0 < i
        · obtain ⟨rfl, h1⟩ := h0
          by_cases e9 : i = 9
          · have t9 : ((i : Int) == 9) = true := by simp; omega
            have E9 := Lib.hid e9; clear e9 h9
            go_wp2
            go_ret3
            refine ⟨?_, rfl⟩
            rw [← HG.out, HD.out, PNum.getB, if_neg (by omega), if_pos (by omega), if_pos ⟨rfl, h1⟩]; rfl
          · have t9 : ((i : Int) == 9) = false := by simp; omega
            go_wp2
            go_ret3
            refine ⟨?_, rfl⟩
            rw [← HG.out, HD.out, PNum.getB, if_neg (by omega), if_pos (by omega), if_pos ⟨rfl, h1⟩]; rfl
        · by_cases h128 : x < 128
          · have fin : PNum.getB 0 0 l = (PNum.unzig (acc + x.toNat % 128 * 128 ^ i), (i : Int) + 1, 0) := by
              rw [← HG.out, HD.out, PNum.getB, if_neg h9, if_pos h128, if_neg h0]
              have : x.toNat % 128 = x.toNat := by omega
              rw [this]
            have hU := accU acc i x hi9 h9 HA.out
            have hE := gatherW acc i W x hx0 hi9 h9 HA.out HW.out
            have FIN := Lib.hid fin; clear fin
            have h3 : i = 9 → ¬ 1 < x := by omega
            have h4 : i ≠ 9 → x = 0 → i = 0 := by omega
            have h5 : i = 9 → x ≠ 0 := by omega
            clear h0 h9
            generalize acc + x.toNat % 128 * 128 ^ i = U at *
            have key : ∀ b1 b2 b3 : Bool, ((i : Int) == 9) = b1 → (x == 0) = b2 → ((U : Int) % 2 == 1) = b3 → (b1 = true → b2 = false) → 
                PNum.unzig U = if b3 then -((U : Int) / 2) - 1 else (U : Int) / 2 := by
              intro b1 b2 b3 _ _ h3 _
              unfold PNum.unzig
              cases b3 <;> simp at h3 <;> simp <;> omega
            by_cases e9 : i = 9
            · have t9 : ((i : Int) == 9) = true := by simp; omega
              have hx := h3 e9
              have t0 : (x == 0) = false := by have := h5 e9; simp; omega
              have i0 : 0 < i := by omega
              have E9 := Lib.hid e9; clear e9 h3 h4 h5
              by_cases e2 : U % 2 = 1
              · have t2 : ((U : Int) % 2 == 1) = true := by simp; omega
                have KEY := Lib.hid (key true false true t9 t0 t2 (fun _ => rfl)); clear key e2
                go_wp2
                go_ret3
                exact ⟨by rw [FIN.out, KEY.out]; rfl, rfl⟩
              · have t2 : ((U : Int) % 2 == 1) = false := by simp; omega
                have KEY := Lib.hid (key true false false t9 t0 t2 (fun _ => rfl)); clear key e2
                go_wp2
                go_ret3
                exact ⟨by rw [FIN.out, KEY.out]; rfl, rfl⟩
            · have t9 : ((i : Int) == 9) = false := by simp; omega
              by_cases e0 : x = 0
              · have t0 : (x == 0) = true := by simp; omega
                have i0 : ¬ 0 < i := by have := h4 e9 e0; omega
                have E0 := Lib.hid e0; clear e0 h3 h4 h5 e9
                by_cases e2 : U % 2 = 1
                · have t2 : ((U : Int) % 2 == 1) = true := by simp; omega
                  have KEY := Lib.hid (key false true true t9 t0 t2 (fun h => by cases h)); clear key e2
                  go_wp2
                  go_ret3
                  exact ⟨by rw [FIN.out, KEY.out]; rfl, rfl⟩
                · have t2 : ((U : Int) % 2 == 1) = false := by simp; omega
                  have KEY := Lib.hid (key false true false t9 t0 t2 (fun h => by cases h)); clear key e2
                  go_wp2
                  go_ret3
                  exact ⟨by rw [FIN.out, KEY.out]; rfl, rfl⟩
              · have t0 : (x == 0) = false := by simp; omega
                clear h3 h4 h5 e9
                by_cases i0 : 0 < i
                all_goals
                  by_cases e2 : U % 2 = 1
                  · have t2 : ((U : Int) % 2 == 1) = true := by simp; omega
                    have KEY := Lib.hid (key false false true t9 t0 t2 (fun _ => rfl)); clear key e2
                    go_wp2
                    go_ret3
                    exact ⟨by rw [FIN.out, KEY.out]; rfl, rfl⟩
                  · have t2 : ((U : Int) % 2 == 1) = false := by simp; omega
                    have KEY := Lib.hid (key false false false t9 t0 t2 (fun _ => rfl)); clear key e2
                    go_wp2
                    go_ret3
                    exact ⟨by rw [FIN.out, KEY.out]; rfl, rfl⟩
          · have t9 : ((i : Int) == 9) = false := by simp; omega
            have t0 : (x == 0) = false := by simp; omega
            have hE := gatherW acc i W x hx0 hi9 h9 HA.out HW.out
            have hlt8 : i ≤ 8 := by omega
            have hW2 : IntKind.u64.wrap ((W : Int) * 128) = ((W * 128 : Nat) : Int) := by
              have h8 : (128 : Nat) ^ i ≤ 128 ^ 8 := Nat.pow_le_pow_right (by decide) hlt8
              have := HW.out
              rw [IntKind.wrap_u64]; omega
            have nxt := acc_next acc i x HA.out
            have fin : PNum.getB (i + 1) (acc + x.toNat % 128 * 128 ^ i) (l.drop (i + 1)) = PNum.getB 0 0 l := by
              rw [← HG.out, HD.out, PNum.getB, if_neg h9, if_neg h128]
              have : x.toNat % 128 = x.toNat - 128 := by omega
              rw [this]
            have FIN := Lib.hid fin; clear fin
            have NXT := Lib.hid nxt; clear nxt h9 h0
            generalize acc + x.toNat % 128 * 128 ^ i = U at *
            obtain ⟨V, hV⟩ : ∃ V, W * 128 = V := ⟨_, rfl⟩
            rw [hV] at hW2
            have HV := Lib.hid hV; clear hV
            by_cases i0 : 0 < i
            all_goals
              go_wp2
              go_round
              case rel => exact ⟨i + 1, U, V, rfl, rfl, by go_num, by omega, by omega, NXT.out, by rw [← HV.out, HW.out, Nat.pow_succ], FIN.out⟩
              case measure => simp [intOf]; omega
    · go_wp2
      go_ret3
      refine ⟨?_, rfl⟩
      have h1 := HG.out
      rw [List.drop_of_length_le (by have := HL.out; omega)] at h1
      rw [← h1]; rfl

end Go.Proofs.Ythafdgnpkfphoaa
