/- The walk of ReadyTimed. -/
import Derived.Test.YthmcjehpmfebaaaReadyN
import Derived.Lib.MinMax
namespace Go.Proofs.Ythmcjehpmfebaaa
open Go.RowKit PReady

theorem and_low (x : Int) (m : Nat) (hm : m < 4611686018427387904) : 0 ≤ bits .and .i64 x (m : Int) ∧ bits .and .i64 x (m : Int) ≤ m := by
  have h1 : (BitVec.ofInt 64 (m : Int)).toNat = m := by rw [BitVec.toNat_ofInt]; omega
  have h2 : (BitVec.ofInt 64 x &&& BitVec.ofInt 64 (m : Int)).toNat ≤ m := by
    rw [BitVec.toNat_and, h1]; exact Nat.and_le_right
  have e : bits .and .i64 x (m : Int) = IntKind.i64.wrap ((BitVec.ofInt 64 x &&& BitVec.ofInt 64 (m : Int)).toNat : Nat) := rfl
  rw [e, IntKind.wrap_i64]
  omega

set_option maxHeartbeats 8000000 in
set_option maxRecDepth 100000 in
theorem ReadyTimed_w (w : World) (A0 : Option Addr) (c0 n0 : Nat) (z0 : List Int) (H00 : Rd w w.heap.size A0 c0 1 n0 (is z0)) (A1 : Option Addr) (c1 n1 : Nat) (z1 : List Int) (H10 : Rd w w.heap.size A1 c1 1 n1 (is z1)) :
    Calls Try.prog 10 #[.slice A0 n0 c0, .slice A1 n1 c1] w fun e w' => e = .returned (.bool true) ∧ Below w.heap.size w w' := by
  have H0 := Lib.hid H00
  have H1 := Lib.hid H10
  have hn1 : n1 ≤ 9223372036854775807 := by have := H10.le; have := H10.cap; unfold maxLen at this; omega
  clear H00 H10
  go_enter Try.func10, Try.ntmps10
  go_wp2_with fail
  refine (begun_c w).mono ?_
  rintro x w1 ⟨rfl, b1⟩
  have B1 := Lib.hid b1
  clear b1
  go_wp2_with fail
  refine (kinds_c w1 _ A0 c0 n0 z0 (H0.out.past B1.out) 2 1 (by decide) (by decide)).mono ?_
  rintro x w3 ⟨A3, c3, es, rfl, hle, ho3, hke, b3⟩
  have KLH := Lib.hid (show KL 2 1 es from ⟨hke, hle⟩)
  have O3 := Lib.hid (Rd.of_own ho3)
  have B3 := Lib.hid (B1.out.trans (b3.mono B1.out.size))
  clear hle ho3 hke b3 B1
  go_wp2_with fail
  refine (New_c w3).mono ?_
  rintro x w4 ⟨rfl, q4, b4⟩
  have S4 := Lib.hid (show Sx w w4 w3.heap.size [w3.heap.size] [] A3 c3 es.length es from Sx.made O3.out B3.out q4 b4)
  clear q4 b4
  obtain ⟨g, hg⟩ : ∃ g, w3.heap.size = g := ⟨_, rfl⟩
  rw [hg] at S4 ⊢
  clear hg O3 B3
  go_wp2_with fail
  have hll : (es.length : Int) ≤ 30 := by have := KLH.out.le; omega
  go_loopw [8, 9] (fun s8 s9 wr => ∃ (i f : Nat) (F : List Nat), s8 = .int .i64 f ∧ s9 = .int .i64 i ∧ i ≤ n1 ∧ i ≤ 20 ∧ f ≤ es.length ∧ Hid (Sx w wr g F (tk 0 (es.take f)) A3 c3 es.length es)) (fun _ s9 _ => n1 - (intOf s9).toNat)
  case atStart => exact ⟨0, 0, [g], rfl, rfl, by omega, by omega, by omega, S4⟩
  case round =>
    obtain ⟨i, f, F, rfl, rfl, hi, hi2, hf, HS⟩ := hrel
    clear S4
    by_cases h1 : i < n1
    · by_cases h2 : i < 20
      · have j2 : (i : Int) < 20 := by omega
        obtain ⟨b, o, cc, rfl, k0, -, -⟩ := (H1.out.below HS.out.bel).int h1
        obtain ⟨m, hm⟩ : ∃ m, bits .and .i64 cc 63 = m := ⟨_, rfl⟩
        obtain ⟨m0, m1⟩ : 0 ≤ m ∧ m ≤ 63 := by rw [← hm]; exact and_low cc 63 (by decide)
        have HLEN := Lib.hid (take_len hf)
        go_wp2_with fail
        clear k0 hm
        refine (HS.out.go KLH.out.fit KLH.out.ap (by have := KLH.out.le; omega) (by have := KLH.out.le; have := HLEN.out; omega) (es.length : Int) m).mono ?_
        rw [timed_go KLH.out m hf]
        rintro x w5 ⟨A5, c5, F5, rfl, -, s5, -, -⟩
        obtain ⟨f', hf'⟩ : ∃ f', max f (min es.length (m - 2).toNat) = f' := ⟨_, rfl⟩
        rw [hf'] at s5
        have hfar : max (f : Int) (min (es.length : Int) (max 0 (m - 2))) = (f' : Int) := by omega
        have hfl : f' ≤ es.length := by omega
        have S5 := Lib.hid s5
        clear s5 HS HLEN hf'
        go_wp2_with fail
        clear hfar
        refine (Told_c w5 g F5 _ S5.out.qu).mono ?_
        rw [take_len hfl]
        rintro x w6 ⟨A6, c6, rfl, o6, b6⟩
        have S6 := Lib.hid (S5.out.past b6)
        have jf : ((f' : Int) != (f' : Int)) = false := by simp
        clear o6 b6 S5
        go_wp2_with fail
        go_roundw
        case rel => exact ⟨i + 1, f', F5, rfl, by go_num, by omega, by omega, by omega, S6⟩
        case measure => simp [intOf]; omega
      · have j2 : ¬ (i : Int) < 20 := by omega
        go_wp2_with fail
        go_ret
        exact ⟨rfl, HS.out.bel⟩
    · go_wp2_with fail
      go_ret
      exact ⟨rfl, HS.out.bel⟩
end Go.Proofs.Ythmcjehpmfebaaa
