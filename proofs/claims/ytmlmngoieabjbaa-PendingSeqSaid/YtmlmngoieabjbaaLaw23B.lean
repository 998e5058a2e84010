/- The walk of PendingSeq. -/
import Derived.Test.YtmlmngoieabjbaaPendK
import Derived.Test.YtmlmngoieabjbaaPendO
import Derived.Test.YtmlmngoieabjbaaInt
namespace Go.Proofs.Ytmlmngoieabjbaa
open Go.RowKit PPend

theorem and3 (x : Int) : bits .and .i64 x 3 = 0 ∨ bits .and .i64 x 3 = 1 ∨ bits .and .i64 x 3 = 2 ∨ bits .and .i64 x 3 = 3 := by
  have h1 : (BitVec.ofInt 64 (3 : Int)).toNat = 3 := rfl
  have h2 : (BitVec.ofInt 64 x &&& BitVec.ofInt 64 (3 : Int)).toNat ≤ 3 := by
    rw [BitVec.toNat_and, h1]; exact Nat.and_le_right
  have e : bits .and .i64 x 3 = IntKind.i64.wrap ((BitVec.ofInt 64 x &&& BitVec.ofInt 64 (3 : Int)).toNat : Nat) := rfl
  rw [e, IntKind.wrap_i64]
  omega

set_option maxHeartbeats 8000000 in
set_option maxRecDepth 100000 in
theorem PendingSeq_w (w : World) (fr boot : Int) (AC : Option Addr) (cc nc : Nat) (cs : List Int) (RC : Rd w w.heap.size AC cc 1 nc (is cs)) :
    Calls Try.prog 5 #[.int .i64 fr, .int .i64 boot, .slice AC nc cc] w fun e w' => e = .returned (.bool true) ∧ Below w.heap.size w w' := by
  have RC0 := Lib.hid RC
  have hcap := RC.cap
  have hle := RC.le
  have hnc : nc ≤ 9223372036854775807 := by unfold maxLen at hcap; omega
  clear RC hcap hle
  rcases (by omega : fr < 1 ∨ (1 ≤ fr ∧ 7 < fr) ∨ (1 ≤ fr ∧ fr ≤ 7 ∧ boot < 1) ∨ (1 ≤ fr ∧ fr ≤ 7 ∧ 1 ≤ boot ∧ 1099511627776 < boot) ∨ (1 ≤ fr ∧ fr ≤ 7 ∧ 1 ≤ boot ∧ boot ≤ 1099511627776)) with k | ⟨k, k2⟩ | ⟨k, k2, k3⟩ | ⟨k, k2, k3, k4⟩ | ⟨f1, f2, b1, b2⟩
  iterate 4
    · go_enter Try.func5, Try.ntmps5
      go_wp2_with fail
      refine (begunN_c w).mono ?_
      rintro e w1 ⟨rfl, bb⟩
      go_wp2_with fail
      go_ret
      exact ⟨rfl, bb⟩
  · go_enter Try.func5, Try.ntmps5
    go_wp2_with fail
    refine (begunN_c w).mono ?_
    rintro e w1 ⟨rfl, bb⟩
    go_wp2_with fail
    refine (Lp.new bb f1 f2 b1 b2).mono ?_
    rintro e w2 ⟨rfl, s2, -⟩
    have hwg := bb.size
    have S2 := Lib.hid s2
    clear bb s2
    generalize w1.heap.size = g at *
    go_wp2_with fail
    go_loopw [9, 10, 11] (fun s9 s10 s11 wr => ∃ (i n c : Nat) (s : Int) (A : Option Addr), i ≤ nc ∧ i ≤ 40 ∧ 0 ≤ s ∧ s ≤ i ∧ n ≤ 4 ∧ n ≤ s ∧ s9 = .int .i64 s ∧ s10 = .slice A n c ∧ s11 = .int .i64 i ∧
        Hid (Lp w wr g fr boot s (run fr boot (s - n) n)) ∧ Hid (Og wr w.heap.size 35 7 A n c (els (run fr boot (s - n) n))))
      (fun _ _ s11 _ => nc - (intOf s11).toNat)
    case atStart => exact ⟨0, 0, 0, 0, none, by omega, by omega, by omega, by omega, by omega, by omega, rfl, rfl, rfl, S2, Lib.hid (Og.nil _ _ _ _)⟩
    case round =>
      clear S2
      obtain ⟨i, n, c, s, A, hin, hi4, h0, h1, hn4, hns, rfl, rfl, rfl, HS, HO⟩ := hrel
      by_cases hl : i < nc
      · by_cases hl4 : i < 40
        · obtain ⟨b, o, x, rfl, dx, -, -⟩ := (RC0.out.below HS.out.bel).int hl
          rcases and3 x with hm | hm | hm | hm
          · rcases (by omega : n < 4 ∨ n = 4) with hn | hn
            · go_wp2_with fail
              have HRUN := Lib.hid (run_add fr boot n (s - n))
              have hs1 : s - n + n + 1 = s + 1 := by omega
              rw [hs1] at HRUN
              refine (HS.out.add 1 1 ⟨#[120]⟩ (one fr boot (s + 1)) rfl (one_may f1 f2 b1 b2 (by omega) (by omega)) (by rw [run_length]; omega)).mono ?_
              rw [HRUN.out]
              simp only [ev, one]
              rintro x w3 ⟨rfl, s3, t3⟩
              have hAg : bk A ≠ some g := by
                obtain ⟨ys, hb⟩ := HS.out.p.blk
                exact HO.out.ne hb (by decide)
              have O3 := HO.out.touch t3 (fun q hq => by rw [List.mem_singleton] at hq; subst hq; exact hAg)
              have b4 := (Below.refl w3.heap.size w3).alloc (Nat.le_refl _) (.cells #[.int .i64 fr, .int .i64 boot, .int .i64 (s + 1), .int .i64 1, .int .i64 1, .int .i64 0, .string ⟨#[120]⟩] 35)
              have b5 := b4.alloc b4.size (.cells #[.int .i64 fr, .int .i64 boot, .int .i64 (s + 1), .int .i64 1, .int .i64 1, .int .i64 0, .string ⟨#[120]⟩] 35)
              have S5 := Lib.hid (s3.past b5)
              have O5 := Lib.hid (O3.past b5)
              have K4 := Blk.newEnt w3 35 (one fr boot (s + 1))
              have K5 := Blk.newEnt (w3.alloc (.cells #[.int .i64 fr, .int .i64 boot, .int .i64 (s + 1), .int .i64 1, .int .i64 1, .int .i64 0, .string ⟨#[120]⟩] 35)) 35 (one fr boot (s + 1))
              rw [show (w3.alloc (.cells #[.int .i64 fr, .int .i64 boot, .int .i64 (s + 1), .int .i64 1, .int .i64 1, .int .i64 0, .string ⟨#[120]⟩] 35)).heap.size = w3.heap.size + 1 by simp] at K5
              have R5 := Lib.hid (show Rd ((w3.alloc (.cells #[.int .i64 fr, .int .i64 boot, .int .i64 (s + 1), .int .i64 1, .int .i64 1, .int .i64 0, .string ⟨#[120]⟩] 35)).alloc (.cells #[.int .i64 fr, .int .i64 boot, .int .i64 (s + 1), .int .i64 1, .int .i64 1, .int .i64 0, .string ⟨#[120]⟩] 35)) ((w3.alloc (.cells #[.int .i64 fr, .int .i64 boot, .int .i64 (s + 1), .int .i64 1, .int .i64 1, .int .i64 0, .string ⟨#[120]⟩] 35)).alloc (.cells #[.int .i64 fr, .int .i64 boot, .int .i64 (s + 1), .int .i64 1, .int .i64 1, .int .i64 0, .string ⟨#[120]⟩] 35)).heap.size (some ⟨w3.heap.size + 1, 0, none⟩) 1 7 1 (ecs (one fr boot (s + 1))) from
                ⟨rfl, Nat.le_refl _, by unfold maxLen; omega, (fun hh => by cases hh), fun _ => ⟨w3.heap.size + 1, 0, rfl, K5.lt, fun j u hu => by rw [Nat.zero_add]; exact K5.cell hu⟩⟩)
              simp only [one] at K4
              obtain ⟨d0, d1, d2, d3, d4, d5, d6⟩ := K4.ent
              have HBL := Lib.hid (show (∀ q ∈ bl A, w.heap.size ≤ q) ∧ g ∉ bl A from ⟨fun q hq => (HO.out.blk (mem_bl.1 hq)).1, fun hq => hAg (mem_bl.1 hq)⟩)
              clear s3 t3 O3 HS HO K4 K5 b4 b5 hAg hs1
              have hni : (n : Int) < 4 := by omega
              go_wp2_with (at_builtin; go_must (refine wpList_appO rfl (.tmp 107) (.tmp 109) 23 rfl w.heap.size 35 (ev zeroE) 7 64 Try.underlying23 ent_info rfl (by omega) A n c _ rfl O5.out _ (some ⟨w3.heap.size + 1, 0, none⟩) 1 1 (ecs (one fr boot (s + 1))) rfl R5.out (by omega) (ecs_one _) (by unfold maxLen; omega) (by omega) S5.out.bel.size ?_; intro A' c' w6 O6 t6))
              have S6 := Lib.hid (show Lp w w6 g fr boot (s + 1) (run fr boot (s + 1 - ((n + 1 : Nat) : Int)) (n + 1)) by
                rw [show s + 1 - ((n + 1 : Nat) : Int) = s - n by omega]
                exact S5.out.far t6 HBL.out.1 HBL.out.2)
              have O7 := Lib.hid (show Og w6 w.heap.size 35 7 A' (n + 1) c' (els (run fr boot (s + 1 - ((n + 1 : Nat) : Int)) (n + 1))) by
                rw [show s + 1 - ((n + 1 : Nat) : Int) = s - n by omega, ← HRUN.out, els_append]
                exact O6)
              clear O6 t6 S5 O5 R5 HBL HRUN
              go_wp2_with fail
              refine S6.out.len.mono ?_
              rintro x wl ⟨rfl, rfl⟩
              rw [run_length]
              go_wp2_with fail
              go_roundw
              case rel => exact ⟨i + 1, n + 1, _, s + 1, _, by omega, by omega, by omega, by omega, by omega, by omega, rfl, rfl, by go_num, S6, O7⟩
              case measure => simp [intOf]; omega
            · go_wp2_with fail
              refine (HS.out.busy 1 1 ⟨#[120]⟩ (one fr boot (s + 1)) rfl (one_may f1 f2 b1 b2 (by omega) (by omega)) (by rw [run_length]; omega)).mono ?_
              simp only [ev, zeroE]
              rintro x w3 ⟨rfl, b3⟩
              have b4 := b3.alloc b3.size (.cells #[.int .i64 0, .int .i64 0, .int .i64 0, .int .i64 0, .int .i64 0, .int .i64 0, .string ⟨#[]⟩] 35)
              have S4 := Lib.hid (HS.out.past b4)
              have O4 := Lib.hid (HO.out.past b4)
              subst hn
              clear b3 b4 HS HO
              go_wp2_with fail
              refine S4.out.len.mono ?_
              rintro x wl ⟨rfl, rfl⟩
              rw [run_length]
              go_wp2_with fail
              go_roundw
              case rel => exact ⟨i + 1, 4, _, s, _, by omega, by omega, by omega, by omega, by omega, by omega, rfl, rfl, by go_num, S4, O4⟩
              case measure => simp [intOf]; omega
          · rcases (by omega : n < 4 ∨ n = 4) with hn | hn
            · go_wp2_with fail
              have HRUN := Lib.hid (run_add fr boot n (s - n))
              have hs1 : s - n + n + 1 = s + 1 := by omega
              rw [hs1] at HRUN
              refine (HS.out.add 1 1 ⟨#[120]⟩ (one fr boot (s + 1)) rfl (one_may f1 f2 b1 b2 (by omega) (by omega)) (by rw [run_length]; omega)).mono ?_
              rw [HRUN.out]
              simp only [ev, one]
              rintro x w3 ⟨rfl, s3, t3⟩
              have hAg : bk A ≠ some g := by
                obtain ⟨ys, hb⟩ := HS.out.p.blk
                exact HO.out.ne hb (by decide)
              have O3 := HO.out.touch t3 (fun q hq => by rw [List.mem_singleton] at hq; subst hq; exact hAg)
              have b4 := (Below.refl w3.heap.size w3).alloc (Nat.le_refl _) (.cells #[.int .i64 fr, .int .i64 boot, .int .i64 (s + 1), .int .i64 1, .int .i64 1, .int .i64 0, .string ⟨#[120]⟩] 35)
              have b5 := b4.alloc b4.size (.cells #[.int .i64 fr, .int .i64 boot, .int .i64 (s + 1), .int .i64 1, .int .i64 1, .int .i64 0, .string ⟨#[120]⟩] 35)
              have S5 := Lib.hid (s3.past b5)
              have O5 := Lib.hid (O3.past b5)
              have K4 := Blk.newEnt w3 35 (one fr boot (s + 1))
              have K5 := Blk.newEnt (w3.alloc (.cells #[.int .i64 fr, .int .i64 boot, .int .i64 (s + 1), .int .i64 1, .int .i64 1, .int .i64 0, .string ⟨#[120]⟩] 35)) 35 (one fr boot (s + 1))
              rw [show (w3.alloc (.cells #[.int .i64 fr, .int .i64 boot, .int .i64 (s + 1), .int .i64 1, .int .i64 1, .int .i64 0, .string ⟨#[120]⟩] 35)).heap.size = w3.heap.size + 1 by simp] at K5
              have R5 := Lib.hid (show Rd ((w3.alloc (.cells #[.int .i64 fr, .int .i64 boot, .int .i64 (s + 1), .int .i64 1, .int .i64 1, .int .i64 0, .string ⟨#[120]⟩] 35)).alloc (.cells #[.int .i64 fr, .int .i64 boot, .int .i64 (s + 1), .int .i64 1, .int .i64 1, .int .i64 0, .string ⟨#[120]⟩] 35)) ((w3.alloc (.cells #[.int .i64 fr, .int .i64 boot, .int .i64 (s + 1), .int .i64 1, .int .i64 1, .int .i64 0, .string ⟨#[120]⟩] 35)).alloc (.cells #[.int .i64 fr, .int .i64 boot, .int .i64 (s + 1), .int .i64 1, .int .i64 1, .int .i64 0, .string ⟨#[120]⟩] 35)).heap.size (some ⟨w3.heap.size + 1, 0, none⟩) 1 7 1 (ecs (one fr boot (s + 1))) from
                ⟨rfl, Nat.le_refl _, by unfold maxLen; omega, (fun hh => by cases hh), fun _ => ⟨w3.heap.size + 1, 0, rfl, K5.lt, fun j u hu => by rw [Nat.zero_add]; exact K5.cell hu⟩⟩)
              simp only [one] at K4
              obtain ⟨d0, d1, d2, d3, d4, d5, d6⟩ := K4.ent
              have HBL := Lib.hid (show (∀ q ∈ bl A, w.heap.size ≤ q) ∧ g ∉ bl A from ⟨fun q hq => (HO.out.blk (mem_bl.1 hq)).1, fun hq => hAg (mem_bl.1 hq)⟩)
              clear s3 t3 O3 HS HO K4 K5 b4 b5 hAg hs1
              have hni : (n : Int) < 4 := by omega
              go_wp2_with (at_builtin; go_must (refine wpList_appO rfl (.tmp 107) (.tmp 109) 23 rfl w.heap.size 35 (ev zeroE) 7 64 Try.underlying23 ent_info rfl (by omega) A n c _ rfl O5.out _ (some ⟨w3.heap.size + 1, 0, none⟩) 1 1 (ecs (one fr boot (s + 1))) rfl R5.out (by omega) (ecs_one _) (by unfold maxLen; omega) (by omega) S5.out.bel.size ?_; intro A' c' w6 O6 t6))
              have S6 := Lib.hid (show Lp w w6 g fr boot (s + 1) (run fr boot (s + 1 - ((n + 1 : Nat) : Int)) (n + 1)) by
                rw [show s + 1 - ((n + 1 : Nat) : Int) = s - n by omega]
                exact S5.out.far t6 HBL.out.1 HBL.out.2)
              have O7 := Lib.hid (show Og w6 w.heap.size 35 7 A' (n + 1) c' (els (run fr boot (s + 1 - ((n + 1 : Nat) : Int)) (n + 1))) by
                rw [show s + 1 - ((n + 1 : Nat) : Int) = s - n by omega, ← HRUN.out, els_append]
                exact O6)
              clear O6 t6 S5 O5 R5 HBL HRUN
              go_wp2_with fail
              refine S6.out.len.mono ?_
              rintro x wl ⟨rfl, rfl⟩
              rw [run_length]
              go_wp2_with fail
              go_roundw
              case rel => exact ⟨i + 1, n + 1, _, s + 1, _, by omega, by omega, by omega, by omega, by omega, by omega, rfl, rfl, by go_num, S6, O7⟩
              case measure => simp [intOf]; omega
            · go_wp2_with fail
              refine (HS.out.busy 1 1 ⟨#[120]⟩ (one fr boot (s + 1)) rfl (one_may f1 f2 b1 b2 (by omega) (by omega)) (by rw [run_length]; omega)).mono ?_
              simp only [ev, zeroE]
              rintro x w3 ⟨rfl, b3⟩
              have b4 := b3.alloc b3.size (.cells #[.int .i64 0, .int .i64 0, .int .i64 0, .int .i64 0, .int .i64 0, .int .i64 0, .string ⟨#[]⟩] 35)
              have S4 := Lib.hid (HS.out.past b4)
              have O4 := Lib.hid (HO.out.past b4)
              subst hn
              clear b3 b4 HS HO
              go_wp2_with fail
              refine S4.out.len.mono ?_
              rintro x wl ⟨rfl, rfl⟩
              rw [run_length]
              go_wp2_with fail
              go_roundw
              case rel => exact ⟨i + 1, 4, _, s, _, by omega, by omega, by omega, by omega, by omega, by omega, rfl, rfl, by go_num, S4, O4⟩
              case measure => simp [intOf]; omega
          · go_wp2_with fail
            refine (HS.out.form 1 7 ⟨#[120]⟩ ⟨fr, boot, s + 1, 1, 7, 0, ⟨#[120]⟩⟩ rfl (decide_eq_false (fun h => absurd h.2.2.2.2.1.2 (by simp)))).mono ?_
            simp only [ev, zeroE]
            rintro x w3 ⟨rfl, b3⟩
            have b4 := b3.alloc b3.size (.cells #[.int .i64 0, .int .i64 0, .int .i64 0, .int .i64 0, .int .i64 0, .int .i64 0, .string ⟨#[]⟩] 35)
            have S4 := Lib.hid (HS.out.past b4)
            have O4 := Lib.hid (HO.out.past b4)
            clear b3 b4 HS HO
            go_wp2_with fail
            refine S4.out.len.mono ?_
            rintro x wl ⟨rfl, rfl⟩
            rw [run_length]
            go_wp2_with fail
            go_roundw
            case rel => exact ⟨i + 1, n, _, s, _, by omega, by omega, by omega, by omega, by omega, by omega, rfl, rfl, by go_num, S4, O4⟩
            case measure => simp [intOf]; omega
          · rcases (by omega : 0 < n ∨ n = 0) with hn | hn
            · obtain ⟨k, rfl⟩ : ∃ k, n = k + 1 := ⟨n - 1, by omega⟩
              obtain ⟨lo, hlo⟩ : ∃ lo, s - ((k + 1 : Nat) : Int) = lo := ⟨_, rfl⟩
              rw [hlo] at HS HO
              have hAg : bk A ≠ some g := by
                obtain ⟨ys, hb⟩ := HS.out.p.blk
                exact HO.out.ne hb (by decide)
              have R0 := Lib.hid (show Rd wr wr.heap.size A c 7 1 (els [one fr boot (lo + 1)]) from HO.out.rd.few (m := 1) (by omega))
              go_wp2_with ((with_reducible show wpList _ _ _ ((⟨some 56, Op.slice _ _ _ _ _, _, _, _, _⟩ : Oper) :: _) _ _); go_must (refine wpList_headS rfl 23 (.tmp 55) _ rfl 35 _ 7 64 Try.underlying23 ent_info A c (k + 1) 1 rfl rfl (by have := HO.out.rd.le; omega) ?_))
              refine (HS.out.done R0.out (fun _ => hAg)).mono ?_
              rw [PPend.run_head]
              rintro x w3 ⟨hx, s3, t3⟩
              have hx : x = .returned (.int .i64 1) := by rw [hx, run_length, run_length]; congr 2; omega
              subst hx
              have tg : ∀ q ∈ [g], bk A ≠ some q := fun q hq => by rw [List.mem_singleton] at hq; subst hq; exact hAg
              have O3 := Lib.hid (HO.out.touch t3 tg)
              have S3 := Lib.hid s3
              have R3 := Lib.hid (show Rd w3 w3.heap.size A c 7 1 (els [one fr boot (lo + 1)]) from O3.out.rd.few (m := 1) (by omega))
              clear HS HO R0 s3 t3
              go_wp2_with ((with_reducible show wpList _ _ _ ((⟨some 62, Op.slice _ _ _ _ _, _, _, _, _⟩ : Oper) :: _) _ _); go_must (refine wpList_unguard rfl ?_; refine wpList_headS rfl 23 (.tmp 61) _ rfl 35 _ 7 64 Try.underlying23 ent_info A c (k + 1) 1 rfl rfl (by have := O3.out.rd.le; omega) ?_))
              refine (S3.out.done R3.out (fun _ => hAg)).mono ?_
              rw [PPend.run_past _ _ _ _ _ (Int.le_refl _)]
              rintro x w4 ⟨hx, s4, t4⟩
              have hx : x = .returned (.int .i64 0) := by rw [hx]; congr 2; omega
              subst hx
              have O4 := Lib.hid (O3.out.touch t4 tg)
              have S4 := Lib.hid (show Lp w w4 g fr boot s (run fr boot (s - k) k) by rw [show s - (k : Int) = lo + 1 by omega]; exact s4)
              clear S3 O3 R3 s4 t4 tg hAg
              go_wp2_with ((with_reducible show wpList _ _ _ ((⟨some 67, Op.slice _ _ _ _ _, _, _, _, _⟩ : Oper) :: _) _ _); go_must (refine wpList_rest rfl 23 (.tmp 66) _ rfl 35 _ 7 64 Try.underlying23 ent_info A (k + 1) c _ rfl O4.out (by omega) rfl k rfl ?_; intro A' c' O5))
              have O6 := Lib.hid (show Og w4 w.heap.size 35 7 A' k c' (els (run fr boot (s - k) k)) by
                rw [show s - (k : Int) = lo + 1 by omega]
                have := O5.out
                rwa [show (els (run fr boot lo (k + 1))).drop 7 = els (run fr boot (lo + 1) k) from els_drop (run fr boot lo (k + 1)) 1] at this)
              clear O4 O5
              go_wp2_with fail
              refine S4.out.len.mono ?_
              rintro x wl ⟨rfl, rfl⟩
              rw [run_length]
              go_wp2_with fail
              go_roundw
              case rel => exact ⟨i + 1, k, _, s, _, by omega, by omega, by omega, by omega, by omega, by omega, rfl, rfl, by go_num, S4, O6⟩
              case measure => simp [intOf]; omega
            · subst hn
              go_wp2_with fail
              refine HS.out.len.mono ?_
              rintro x wl ⟨rfl, rfl⟩
              rw [run_length]
              go_wp2_with fail
              go_roundw
              case rel => exact ⟨i + 1, 0, _, s, _, by omega, by omega, by omega, by omega, by omega, by omega, rfl, rfl, by go_num, HS, HO⟩
              case measure => simp [intOf]; omega
        · go_wp2_with fail
          go_ret
          exact ⟨rfl, HS.out.bel⟩
      · go_wp2_with fail
        go_ret
        exact ⟨rfl, HS.out.bel⟩
end Go.Proofs.Ytmlmngoieabjbaa
