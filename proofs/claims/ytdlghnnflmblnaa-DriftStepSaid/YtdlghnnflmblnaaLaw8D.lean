/- The walk of DriftStep. -/
import Derived.Test.YtdlghnnflmblnaaDriftE
namespace Go.Proofs.Ytdlghnnflmblnaa
open Go.RowKit
open PDrift (pr)

/-- n readings at nothing, one more behind. -/
def zl (n : Nat) (r h : Int) : List (Int × Int) := List.replicate n (0, 0) ++ [(r, h)]
theorem zl_len (n : Nat) (r h : Int) : (zl n r h).length = n + 1 := by simp [zl]
theorem zl_at {n i : Nat} {r h : Int} (hi : i < n) : pr (zl n r h) i = (0, 0) := by
  simp [zl, pr, List.getD, List.getElem?_append_left, hi]
theorem zl_last (n : Nat) (r h : Int) : pr (zl n r h) n = (r, h) := by
  simp [zl, pr, List.getD]
theorem zl_good {n : Nat} {r h : Int} (hr : 0 ≤ r) (ht : PDrift.Rdg (r, h)) : PDrift.Good (zl n r h) := by
  intro i hi
  rw [zl_len] at hi
  unfold PDrift.Ok1
  by_cases hl : i < n
  · rw [zl_at hl]
    exact ⟨by decide, fun h0 => by rw [zl_at (by omega)]; exact Int.le_refl _⟩
  · obtain rfl : i = n := by omega
    rw [zl_last]
    exact ⟨ht, fun h0 => by rw [zl_at (by omega)]; exact hr⟩
theorem zl_kept {n j : Nat} {r h d : Int} (hj : j < n) : PDrift.Kept (zl n r h) d j := by
  intro k hk
  rw [zl_at hj, zl_at (by omega)]
  unfold PDrift.keeps
  omega
theorem zl_fine {n : Nat} {r h d : Int} (hd : PDrift.Rate d) (hr : 0 ≤ r) (ht : PDrift.Rdg (r, h)) (hk : PDrift.keeps d (0, 0) (r, h)) : PDrift.fault (zl n r h) d = -1 := by
  refine PDrift.fault_none hd (zl_good hr ht) fun i hi => ?_
  rw [zl_len] at hi
  by_cases hl : i < n
  · exact zl_kept hl
  · obtain rfl : i = n := by omega
    intro k hk'
    rw [zl_last, zl_at hk']; exact hk
theorem zl_bad {n : Nat} {r h d : Int} (hn : 0 < n) (hd : PDrift.Rate d) (hr : 0 ≤ r) (ht : PDrift.Rdg (r, h)) (hk : ¬ PDrift.keeps d (0, 0) (r, h)) : PDrift.fault (zl n r h) d = (n : Int) + 1 := by
  refine PDrift.fault_some hd (zl_good hr ht) (by rw [zl_len]; omega) (fun j hj => zl_kept hj) fun h0 => hk ?_
  have := h0 0 hn
  rwa [zl_last, zl_at hn] at this

theorem tcs_zero (n : Nat) : (madeCells (Value.cells (.agg #[.int .i64 0, .int .i64 0])) (n * 2)).toList = tcs (List.replicate n (0, 0)) := by
  have h1 : tcs (List.replicate n (0, 0)) = List.replicate (n * 2) (Value.int .i64 0) := by
    induction n with
    | zero => rfl
    | succ n ih =>
      rw [List.replicate_succ, show tcs ((0, 0) :: List.replicate n (0, 0)) = pc (0, 0) ++ tcs (List.replicate n (0, 0)) from rfl, ih, show (n + 1) * 2 = n * 2 + 1 + 1 by omega, List.replicate_succ, List.replicate_succ]; rfl
  rw [h1, List.eq_replicate_iff]
  refine ⟨by rw [Array.length_toList, size_madeCells], fun b hb => ?_⟩
  simp only [madeCells, Array.toList_map, List.mem_map] at hb
  obtain ⟨j, _, rfl⟩ := hb
  have : j % 2 < 2 := Nat.mod_lt _ (by omega)
  show (#[Value.int .i64 0, Value.int .i64 0] : Array Value)[j % 2]! = _
  rcases (by omega : j % 2 = 0 ∨ j % 2 = 1) with e | e <;> rw [e] <;> rfl

set_option maxHeartbeats 1000000 in
set_option maxRecDepth 100000 in
theorem DriftStep_w (w : World) (r d k : Int) :
    Calls Try.prog 6 #[.int .i64 r, .int .i64 d, .int .i64 k] w fun e w' => e = .returned (.bool true) ∧ Below w.heap.size w w' := by
  go_enter Try.func6, Try.ntmps6
  go_wp2_with fail
  refine (begun_c w).mono ?_
  rintro e w1 ⟨rfl, b1⟩
  have B1 := Lib.hid b1
  have hs1 := b1.size
  clear b1
  rcases (by omega : r < 0 ∨ (0 ≤ r ∧ 1073741824 < r) ∨ (0 ≤ r ∧ r ≤ 1073741824 ∧ d < 0) ∨ (0 ≤ r ∧ r ≤ 1073741824 ∧ 0 ≤ d ∧ 500000 < d) ∨ (0 ≤ r ∧ r ≤ 1073741824 ∧ 0 ≤ d ∧ d ≤ 500000 ∧ k < 1) ∨ (0 ≤ r ∧ r ≤ 1073741824 ∧ 0 ≤ d ∧ d ≤ 500000 ∧ 1 ≤ k ∧ 8 < k) ∨ (0 ≤ r ∧ r ≤ 1073741824 ∧ 0 ≤ d ∧ d ≤ 500000 ∧ 1 ≤ k ∧ k ≤ 8)) with h | ⟨h1, h2⟩ | ⟨h1, h2, h3⟩ | ⟨h1, h2, h3, h4⟩ | ⟨h1, h2, h3, h4, h5⟩ | ⟨h1, h2, h3, h4, h5, h6⟩ | ⟨h1, h2, h3, h4, h5, h6⟩
  iterate 6
    · go_wp2_with fail
      go_ret
      exact ⟨rfl, B1.out⟩
  obtain ⟨n, rfl⟩ := Int.eq_ofNat_of_zero_le (show 0 ≤ k by omega)
  obtain ⟨m1, m2⟩ := mul_bound h1 h2 (show 0 ≤ 1000000 - d by omega) (show 1000000 - d ≤ 1500000 by omega)
  obtain ⟨m3, m4⟩ := mul_bound h1 h2 (show 0 ≤ 1000000 + d by omega) (show 1000000 + d ≤ 1500000 by omega)
  have m5 : r * (1000000 - d) ≤ r * (1000000 + d) := Int.mul_le_mul_of_nonneg_left (by omega) h1
  obtain ⟨lo, hlo⟩ : ∃ lo, lo = 0 + (max 0 ((r - 0) * (1000000 - d) - 1000000) + 1000000 - 1) / 1000000 := ⟨_, rfl⟩
  obtain ⟨hi, hhi⟩ : ∃ hi, hi = 0 + ((r - 0) * (1000000 + d) + 1000000) / 1000000 := ⟨_, rfl⟩
  have hR := Bounds_c (p := (0, 0)) (real := r) (d := d) (hp := by decide) (hr := ⟨by omega, by omega⟩) (hpr := h1) (hd := ⟨h3, h4⟩) (lo := lo) (hi := hi) (hlo := hlo) (hhi := hhi)
  rw [Int.sub_zero] at hlo hhi
  have hRR := Lib.hid (fun w => hR w (by unfold PDrift.T; omega) (by unfold PDrift.T; omega))
  clear hR
  have k1 : PDrift.keeps d (0, 0) (r, hi) := by
    unfold PDrift.keeps
    simp only [Int.sub_zero]
    omega
  have k2 : ¬ PDrift.keeps d (0, 0) (r, hi + 1) := by
    unfold PDrift.keeps
    simp only [Int.sub_zero]
    omega
  have t1 : 0 ≤ hi := by omega
  have t2 : hi ≤ 2000000000 := by omega
  have HF1 := Lib.hid (zl_fine (n := n) ⟨h3, h4⟩ h1 ⟨⟨by simp only; omega, by simp only; omega⟩, ⟨by simp only; omega, by simp only; omega⟩⟩ k1)
  have HF2 := Lib.hid (zl_bad (n := n) (by omega) ⟨h3, h4⟩ h1 ⟨⟨by simp only; omega, by simp only; omega⟩, ⟨by simp only; omega, by simp only; omega⟩⟩ k2)
  clear k1 k2 hlo hhi m1 m2 m3 m4 m5
  go_wp2_with fail
  refine (hRR.out w1).mono ?_
  rintro e w2 ⟨rfl, b2⟩
  have B2 := Lib.hid (B1.out.trans (b2.mono hs1))
  have hs2 := b2.size
  clear b2 B1 hRR
  obtain ⟨i0, q1, q2, q3, q4⟩ := info_parts dr_info
  have HI := Lib.hid (And.intro q1 (And.intro q2 (And.intro q3 q4)))
  have hby : i0.bytes * n ≤ 281474976710656 := by rw [q4]; omega
  clear q1 q2 q3 q4
  go_wp2_with ((with_reducible show wpList _ _ _ ((⟨some 50, _, _, _, _, _⟩ : Oper) :: _) _ _);
               go_must (refine wpList_make_full _ rfl _ _ 22 rfl w.heap.size 31 i0 (.agg #[.int .i64 0, .int .i64 0]) 2 Try.underlying22 HI.out.1 HI.out.2.1 HI.out.2.2.1 _ _ _ _ n rfl rfl rfl rfl hby (by unfold maxLen; omega) (by omega) ?_))
  intro w3 O3 g3
  have OW3 := Lib.hid (show w3.ownsRow w.heap.size 31 2 (.slice (some ⟨w2.heap.size, 0, none⟩) n n) n (tcs (List.replicate n (0, 0))) by rw [← tcs_zero]; exact O3)
  have b3 : Below w2.heap.size w2 w3 := (Below.refl _ _).grown g3 (Nat.le_refl _) (fun k h => by cases h)
  have B3 := Lib.hid (B2.out.trans (b3.mono (by omega)))
  have hs3 : w.heap.size ≤ w3.heap.size := Nat.le_trans (Nat.le_trans hs1 hs2) b3.size
  clear O3 g3 b3 B2
  have hl3 := hs3
  have R3 := Lib.hid (Rd.of_own OW3.out)
  clear OW3 hs3
  go_wp2_with ((with_reducible show wpList _ _ _ ((⟨some 52, _, _, _, _, _⟩ : Oper) :: _) _ _);
               go_must (refine wpList_app rfl _ (.tmp 51) 22 rfl w3.heap.size 31 _ 2 16 Try.underlying22 dr_info rfl (by omega) (.slice none 0 0) 0 [] rfl (World.ownsRow_nil _ _ _ _) _ _ _ n _ rfl R3.out (tcs_one _) (by unfold maxLen; omega) (by omega) (Nat.le_refl _) ?_))
  intro A4 c4 w4 O4 g4 b4
  have P4 := Lib.hid (show w4.ownsRow w3.heap.size 31 2 (.slice A4 n c4) n (tcs (List.replicate n (0, 0))) by simpa using O4)
  have hs4 := b4.size
  clear O4 g4
  go_wp2_with ((with_reducible show wpList _ _ _ ((⟨some 57, _, _, _, _, _⟩ : Oper) :: _) _ (World.alloc _ _));
               go_must (refine wpList_pushes rfl (.tmp 52) (.tmp 56) 22 rfl w3.heap.size 31 _ 2 16 1 Try.underlying22 dr_info rfl (by omega) rfl (by simp [maxLen]) A4 c4 n (tcs (List.replicate n (0, 0))) rfl P4.out rfl (by intro u hu; simp at hu; rcases hu with rfl | rfl <;> rfl) (by unfold maxLen; omega) (by omega) hs4 ?_))
  intro A5 c5 w5 O5 g5 b5
  have P5 := Lib.hid (show w5.ownsRow w3.heap.size 31 2 (.slice A5 (n + 1) c5) (n + 1) (tcs (zl n r hi)) by unfold zl; rw [tcs_app]; exact O5)
  have bb5 := b4.trans b5
  have hs5 := bb5.size
  have B5 := Lib.hid (B3.out.trans (bb5.mono hl3))
  have hl5 : w.heap.size ≤ w5.heap.size := Nat.le_trans hl3 hs5
  clear O5 g5 b4 b5 P4
  have R5 := Lib.hid ((R3.out.below bb5).tight)
  have G5 := Lib.hid (Rd.of_own P5.out)
  clear bb5 P5 R3 B3
  go_wp2_with ((with_reducible show wpList _ _ _ ((⟨some 59, _, _, _, _, _⟩ : Oper) :: _) _ _);
               go_must (refine wpList_app rfl _ (.tmp 58) 22 rfl w5.heap.size 31 _ 2 16 Try.underlying22 dr_info rfl (by omega) (.slice none 0 0) 0 [] rfl (World.ownsRow_nil _ _ _ _) _ _ _ n _ rfl R5.out (tcs_one _) (by unfold maxLen; omega) (by omega) (Nat.le_refl _) ?_))
  intro A6 c6 w6 O6 g6 b6
  have P6 := Lib.hid (show w6.ownsRow w5.heap.size 31 2 (.slice A6 n c6) n (tcs (List.replicate n (0, 0))) by simpa using O6)
  have hs6 := b6.size
  clear O6 g6
  go_wp2_with ((with_reducible show wpList _ _ _ ((⟨some 65, _, _, _, _, _⟩ : Oper) :: _) _ (World.alloc _ _));
               go_must (refine wpList_pushes rfl (.tmp 59) (.tmp 64) 22 rfl w5.heap.size 31 _ 2 16 1 Try.underlying22 dr_info rfl (by omega) rfl (by simp [maxLen]) A6 c6 n (tcs (List.replicate n (0, 0))) rfl P6.out rfl (by intro u hu; simp at hu; rcases hu with rfl | rfl <;> rfl) (by unfold maxLen; omega) (by omega) hs6 ?_))
  intro A7 c7 w7 O7 g7 b7
  have P7 := Lib.hid (show w7.ownsRow w5.heap.size 31 2 (.slice A7 (n + 1) c7) (n + 1) (tcs (zl n r (hi + 1))) by unfold zl; rw [tcs_app]; exact O7)
  have bb7 := b6.trans b7
  have hs7 := bb7.size
  have B7 := Lib.hid (B5.out.trans (bb7.mono hl5))
  have hl7 : w.heap.size ≤ w7.heap.size := Nat.le_trans hl5 hs7
  clear O7 g7 b6 b7 P6
  have G7 := Lib.hid ((G5.out.below bb7).tight)
  have H7 := Lib.hid (Rd.of_own P7.out)
  clear bb7 P7 R5 G5 B5
  go_wp2_with fail
  refine (May_c w7 _ _ _ _ d G7.out).mono ?_
  rw [decide_eq_true HF1.out]
  rintro e w8 ⟨rfl, b8⟩
  have H8 := Lib.hid ((H7.out.past b8).tight)
  have B8 := Lib.hid (B7.out.trans (b8.mono hl7))
  have hl8 := b8.size
  clear b8 H7 G7 B7
  go_wp2_with fail
  refine (Fault_c w8 _ _ _ _ d H8.out).mono ?_
  rw [HF2.out]
  rintro e w9 ⟨rfl, b9⟩
  have B9 := Lib.hid (B8.out.trans (b9.mono (Nat.le_trans hl7 hl8)))
  go_wp2_with fail
  go_ret
  exact ⟨rfl, B9.out⟩
end Go.Proofs.Ytdlghnnflmblnaa
