/- The walk of DriftTrue. -/
import Derived.Test.YtdlghnnflmblnaaDriftE
namespace Go.Proofs.Ytdlghnnflmblnaa
open Go.RowKit
open PDrift (pr)

/-- A number's last bits. -/
theorem and_low (x : Int) (m : Nat) (hm : m < 4611686018427387904) : 0 ≤ bits .and .i64 x (m : Int) ∧ bits .and .i64 x (m : Int) ≤ m := by
  have h1 : (BitVec.ofInt 64 (m : Int)).toNat = m := by rw [BitVec.toNat_ofInt]; omega
  have h2 : (BitVec.ofInt 64 x &&& BitVec.ofInt 64 (m : Int)).toNat ≤ m := by
    rw [BitVec.toNat_and, h1]; exact Nat.and_le_right
  have e : bits .and .i64 x (m : Int) = IntKind.i64.wrap ((BitVec.ofInt 64 x &&& BitVec.ofInt 64 (m : Int)).toNat : Nat) := rfl
  rw [e, IntKind.wrap_i64]
  omega

/-- Readings of a clock that is a ahead, up to a time. -/
structure Tr (a : Int) (L : List (Int × Int)) (now : Int) : Prop where
  ok : ∀ i, i < L.length → PDrift.Ok1 L i
  same : ∀ i, i < L.length → (pr L i).2 = (pr L i).1 + a
  upto : ∀ i, i < L.length → (pr L i).1 ≤ now
theorem pr_app_left {L M : List (Int × Int)} {i : Nat} (h : i < L.length) : pr (L ++ M) i = pr L i := by
  simp [pr, List.getD, List.getElem?_append_left h]
theorem pr_app_last (L : List (Int × Int)) (p : Int × Int) : pr (L ++ [p]) L.length = p := by
  simp [pr, List.getD]
theorem Tr.push {a now m : Int} {L : List (Int × Int)} (h : Tr a L now) (hm : 0 ≤ m) (ht : PDrift.T (now + m)) (hta : PDrift.T (now + m + a)) : Tr a (L ++ [(now + m, now + m + a)]) (now + m) := by
  refine ⟨fun i hi => ?_, fun i hi => ?_, fun i hi => ?_⟩ <;> rw [List.length_append, List.length_singleton] at hi
  · by_cases hl : i < L.length
    · have := h.ok i hl
      unfold PDrift.Ok1 at *
      rw [pr_app_left hl]
      exact ⟨this.1, fun h0 => by rw [pr_app_left (by omega)]; exact this.2 h0⟩
    · obtain rfl : i = L.length := by omega
      unfold PDrift.Ok1
      rw [pr_app_last]
      exact ⟨⟨ht, hta⟩, fun h0 => by
        rw [pr_app_left (by omega)]
        have := h.upto (L.length - 1) (by omega)
        simp only; omega⟩
  · by_cases hl : i < L.length
    · rw [pr_app_left hl]; exact h.same i hl
    · obtain rfl : i = L.length := by omega
      rw [pr_app_last]
  · by_cases hl : i < L.length
    · rw [pr_app_left hl]; have := h.upto i hl; omega
    · obtain rfl : i = L.length := by omega
      rw [pr_app_last]; exact Int.le_refl _
theorem Tr.fault {a now d : Int} {L : List (Int × Int)} (h : Tr a L now) (hd : PDrift.Rate d) : PDrift.fault L d = -1 := by
  refine PDrift.fault_none hd h.ok fun i hi k hk => ?_
  have h1 := h.same i hi
  have h2 := h.same k (by omega)
  have h3 := PDrift.reals h.ok (show k ≤ i by omega) hi
  unfold PDrift.keeps
  rw [h1, h2]
  generalize (pr L k).1 = x at *
  generalize (pr L i).1 = y at *
  obtain ⟨d1, d2⟩ := hd
  have m := Int.mul_nonneg (show 0 ≤ y - x by omega) d1
  rw [Int.mul_sub, Int.mul_add]
  refine ⟨by omega, ?_, ?_⟩ <;> rw [show y + a - (x + a) = y - x by omega] <;> omega

set_option maxHeartbeats 1000000 in
set_option maxRecDepth 100000 in
theorem DriftTrue_w (w : World) (A : Option Addr) (c n : Nat) (l : List Int) (h : Rd w w.heap.size A c 1 n (is l)) (a d : Int) :
    Calls Try.prog 4 #[.slice A n c, .int .i64 a, .int .i64 d] w fun e w' => e = .returned (.bool true) ∧ Below w.heap.size w w' := by
  have hln := h.ilen
  have hcap := h.cap
  have hle := h.le
  unfold maxLen at hcap
  have R0 := Lib.hid h
  clear h
  go_enter Try.func4, Try.ntmps4
  go_wp2_with fail
  refine (begun_c w).mono ?_
  rintro e w1 ⟨rfl, b1⟩
  have R1 := Lib.hid (R0.out.past b1)
  have B1 := Lib.hid b1
  clear b1 R0
  rcases (by omega : d < 0 ∨ (0 ≤ d ∧ 500000 < d) ∨ (0 ≤ d ∧ d ≤ 500000 ∧ a < -1000000) ∨ (0 ≤ d ∧ d ≤ 500000 ∧ -1000000 ≤ a ∧ 1000000 < a) ∨ (0 ≤ d ∧ d ≤ 500000 ∧ -1000000 ≤ a ∧ a ≤ 1000000)) with h | ⟨h1, h2⟩ | ⟨h1, h2, h3⟩ | ⟨h1, h2, h3, h4⟩ | ⟨h1, h2, h3, h4⟩
  iterate 4
    · go_wp2_with fail
      go_ret
      exact ⟨rfl, B1.out⟩
  go_wp2_with fail
  have HR := Lib.hid (show PDrift.Rate d from ⟨h1, h2⟩)
  go_loopw [8, 9, 10] (fun s8 s9 s10 wr => ∃ (i : Nat) (L : List (Int × Int)) (now : Int) (A1 : Option Addr) (c1 : Nat), i ≤ n ∧ i ≤ 20 ∧ s8 = .slice A1 i c1 ∧ s9 = .int .i64 now ∧ s10 = .int .i64 i ∧ 0 ≤ now ∧ now ≤ 65535 * (i : Int) ∧ Hid (L.length = i) ∧ Hid (Tr a L now) ∧ Hid (wr.ownsRow w.heap.size 31 2 (.slice A1 i c1) i (tcs L)) ∧ Hid (Rd wr w.heap.size A c 1 n (is l)) ∧ Hid (Below w.heap.size w wr)) (fun _ _ s10 _ => n - (intOf s10).toNat)
  case atStart => exact ⟨0, [], 0, none, 0, by omega, by omega, rfl, rfl, rfl, by omega, by omega, Lib.hid rfl, Lib.hid ⟨fun i hi => absurd hi (by simp), fun i hi => absurd hi (by simp), fun i hi => absurd hi (by simp)⟩, Lib.hid (World.ownsRow_nil _ _ _ _), R1, B1⟩
  case round =>
    clear R1 B1
    obtain ⟨i, L, now, A1, c1, hi, hi20, rfl, rfl, rfl, hn0, hn1, HL, HT, OW, RT, BT⟩ := hrel
    rcases (by omega : (i < n ∧ i < 20) ∨ (n ≤ i) ∨ (i < n ∧ 20 ≤ i)) with ⟨hin, hi2⟩ | hin | ⟨hin, hi2⟩
    · obtain ⟨b, o, x, rfl, c0, -, -⟩ := RT.out.int hin
      obtain ⟨m, hm⟩ : ∃ m, bits .and .i64 x 65535 = m := ⟨_, rfl⟩
      obtain ⟨m0, m1⟩ : 0 ≤ m ∧ m ≤ 65535 := by rw [← hm]; exact and_low x 65535 (by decide)
      have hs := BT.out.size
      go_wp2_with ((with_reducible show wpList _ _ _ ((⟨some 52, _, _, _, _, _⟩ : Oper) :: _) _ (World.alloc _ _));
                   go_must (refine wpList_pushes rfl (.tmp 45) (.tmp 51) 22 rfl w.heap.size 31 _ 2 16 1 Try.underlying22 dr_info rfl (by omega) rfl (by simp [maxLen]) A1 c1 i (tcs L) rfl OW.out rfl (by intro u hu; simp at hu; rcases hu with rfl | rfl <;> rfl) (by unfold maxLen; omega) (by omega) hs ?_))
      intro A2 c2 w2 O2 g2 b2
      go_wp2_with fail
      have HL' := HL.out
      go_roundw
      case rel => exact ⟨i + 1, L ++ [(now + m, now + m + a)], now + m, A2, c2, by omega, by omega, rfl, rfl, by go_num, by omega, by omega, Lib.hid (by simp [HL']), Lib.hid (HT.out.push m0 (by unfold PDrift.T; omega) (by unfold PDrift.T; omega)), Lib.hid (by rw [tcs_app]; exact O2), Lib.hid (RT.out.below b2), Lib.hid (BT.out.trans b2)⟩
      case measure => simp [intOf]; omega
    all_goals
      have HF := Lib.hid (HT.out.fault HR.out)
      go_wp2_with fail
      refine (May_c wr _ _ _ L d (Rd.of_own OW.out)).mono ?_
      rw [decide_eq_true HF.out]
      rintro e w2 ⟨rfl, b2⟩
      have O2 := Lib.hid (own_below OW.out b2)
      have B2 := Lib.hid (BT.out.trans (b2.mono BT.out.size))
      clear b2
      go_wp2_with fail
      refine (Fault_c w2 _ _ _ L d (Rd.of_own O2.out)).mono ?_
      rw [HF.out]
      rintro e w3 ⟨rfl, b3⟩
      have B3 := Lib.hid (B2.out.trans (b3.mono B2.out.size))
      go_wp2_with fail
      go_ret
      exact ⟨rfl, B3.out⟩
end Go.Proofs.Ytdlghnnflmblnaa
