/- The document's Count and ends. -/
import Derived.Test.YtapfdceopbkcgaaCrossD
import Derived.Deep.LoopGhost
import Derived.Lib.MinMax
namespace Go.Proofs.Ytapfdceopbkcgaa
open Go.RowKit
open PDrift (pr)
open PCross (at_ cnt)

set_option maxHeartbeats 1000000 in
set_option maxRecDepth 100000 in
theorem rCount_c (w : World) (B : Nat) (A : Option Addr) (c n : Nat) (l : List (Int × Int)) (h : Rd w B A c 2 n (tcs l)) (hn : n ≤ 1000) (t : Int) :
    Calls Try.prog 16 #[.slice A n c, .int .i64 t] w fun e w' => e = .returned (.int .i64 (cnt l t : Nat)) ∧ w' = w := by
  have hln := h.plen
  have R0 := Lib.hid h
  clear h
  go_enter Try.func16, Try.ntmps16
  go_wp2_with fail
  go_loopw [5, 6] (fun s5 s6 wr => ∃ i q : Nat, i ≤ n ∧ q ≤ i ∧ s5 = .int .i64 q ∧ s6 = .int .i64 i ∧ Hid (cnt (l.take i) t = q) ∧ wr = w) (fun _ s6 _ => n - (intOf s6).toNat)
  case atStart => exact ⟨0, 0, by omega, by omega, rfl, rfl, Lib.hid rfl, rfl⟩
  case round =>
    obtain ⟨i, q, hi, hq, rfl, rfl, HQ, rfl⟩ := hrel
    by_cases hin : i < n
    · obtain ⟨b, o, hA, hbB, k1, k2⟩ := R0.out.pair hin
      subst hA
      obtain ⟨x, hx⟩ : ∃ x, (pr l i).1 = x := ⟨_, rfl⟩
      obtain ⟨y, hy⟩ : ∃ y, (pr l i).2 = y := ⟨_, rfl⟩
      rw [hx] at k1
      rw [hy] at k2
      have hil : i < l.length := by omega
      have HP := Lib.hid (show pr l i = (x, y) by rw [← hx, ← hy])
      clear hx hy
      rcases (by omega : x ≤ t ∧ t ≤ y ∨ x ≤ t ∧ ¬ t ≤ y ∨ ¬ x ≤ t) with ⟨h1, h2⟩ | ⟨h1, h2⟩ | h1
      · have HS := Lib.hid ((PCross.cnt_in l hil HP.out h1 h2).trans (congrArg (· + 1) HQ.out))
        go_wp2_with fail
        go_roundw
        case rel => exact ⟨i + 1, q + 1, by omega, by omega, by go_num, by go_num, HS, trivial⟩
        case measure => simp [intOf]; omega
      · have HS := Lib.hid ((PCross.cnt_out l hil HP.out (fun h => h2 h.2)).trans HQ.out)
        go_wp2_with fail
        go_roundw
        case rel => exact ⟨i + 1, q, by omega, by omega, rfl, by go_num, HS, trivial⟩
        case measure => simp [intOf]; omega
      · have HS := Lib.hid ((PCross.cnt_out l hil HP.out (fun h => h1 h.1)).trans HQ.out)
        go_wp2_with fail
        go_roundw
        case rel => exact ⟨i + 1, q, by omega, by omega, rfl, by go_num, HS, trivial⟩
        case measure => simp [intOf]; omega
    · obtain rfl : i = n := by omega
      have hq2 := HQ.out
      rw [List.take_of_length_le (by omega)] at hq2
      have HQ2 := Lib.hid hq2
      clear hq2 HQ
      go_wp2_with fail
      go_ret
      exact ⟨by rw [HQ2.out]; rfl, rfl⟩

set_option maxHeartbeats 1000000 in
set_option maxRecDepth 100000 in
theorem rEnds_c (w : World) (B : Nat) (A : Option Addr) (c n : Nat) (l : List (Int × Int)) (h : Rd w B A c 2 n (tcs l)) (hn : n ≤ 1000) (t : Int) :
    Calls Try.prog 20 #[.slice A n c, .int .i64 t] w fun e w' => ∃ r, e = .returned (.int .i64 r) ∧ PCross.EndInv l t n r ∧ w' = w := by
  have hln := h.plen
  have R0 := Lib.hid h
  clear h
  go_enter Try.func20, Try.ntmps20
  go_wp2_with fail
  go_loopw [5, 6] (fun s5 s6 wr => ∃ (i : Nat) (r : Int), i ≤ n ∧ s5 = .int .i64 r ∧ s6 = .int .i64 i ∧ Hid (PCross.EndInv l t i r) ∧ wr = w) (fun _ s6 _ => n - (intOf s6).toNat)
  case atStart => exact ⟨0, _, by omega, rfl, rfl, Lib.hid (PCross.EndInv.start l t), rfl⟩
  case round =>
    obtain ⟨i, r, hi, rfl, rfl, HQ, rfl⟩ := hrel
    by_cases hin : i < n
    · obtain ⟨b, o, hA, hbB, k1, k2⟩ := R0.out.pair hin
      subst hA
      obtain ⟨x, hx⟩ : ∃ x, (pr l i).1 = x := ⟨_, rfl⟩
      obtain ⟨y, hy⟩ : ∃ y, (pr l i).2 = y := ⟨_, rfl⟩
      rw [hx] at k1
      rw [hy] at k2
      have HP := Lib.hid (show pr l i = (x, y) by rw [← hx, ← hy])
      clear hx hy
      rcases (by omega : x ≤ t ∧ t ≤ y ∨ x ≤ t ∧ ¬ t ≤ y ∨ ¬ x ≤ t) with ⟨h1, h2⟩ | ⟨h1, h2⟩ | h1
      · have HS := HQ.out.has (by rw [HP.out]; exact ⟨h1, h2⟩)
        rw [HP.out] at HS
        have HS := Lib.hid HS
        go_wp2_with fail
        go_roundw
        case rel => exact ⟨i + 1, _, by omega, rfl, by go_num, HS, trivial⟩
        case measure => simp [intOf]; omega
      · have HS := Lib.hid (HQ.out.not (by rw [HP.out]; exact fun h => h2 h.2))
        go_wp2_with fail
        go_roundw
        case rel => exact ⟨i + 1, _, by omega, rfl, by go_num, HS, trivial⟩
        case measure => simp [intOf]; omega
      · have HS := Lib.hid (HQ.out.not (by rw [HP.out]; exact fun h => h1 h.1))
        go_wp2_with fail
        go_roundw
        case rel => exact ⟨i + 1, _, by omega, rfl, by go_num, HS, trivial⟩
        case measure => simp [intOf]; omega
    · obtain rfl : i = n := by omega
      go_wp2_with fail
      go_ret
      exact ⟨r, rfl, HQ.out, rfl⟩
end Go.Proofs.Ytapfdceopbkcgaa
