/- slices.symMergeCmpFunc where one of the two rows is of one. -/
import Derived.Test.YtnpdhddnlcpaiaaSortB
namespace Go.Proofs.Ytnpdhddnlcpaiaa
open Go.RowKit

theorem half_le {i j h : Nat} (h0 : h = (i + j) / 2) (hij : i < j) : i ≤ h ∧ h < j := by omega
theorem getD_app {P Q : List Int} {i : Nat} (h : P.length ≤ i) : (P ++ Q).getD i 0 = Q.getD (i - P.length) 0 := by
  simp [List.getD, List.getElem?_append_right h]
theorem getD_fst {P Q : List Int} {i : Nat} (h : i < P.length) : (P ++ Q).getD i 0 = P.getD i 0 := by
  simp [List.getD, List.getElem?_append_left h]

set_option maxHeartbeats 1600000 in
set_option maxRecDepth 100000 in
theorem symA_c (w : World) (g c N a m b : Nat) (Z : List Value) (P B R : List Int) (x : Int) (kf : Int → Int) (V : Int → Prop) (G : FuncId) (cb : Array Value) (eg : ∀ args w, (callFunc G args).run Try.prog w = .ok (.enter G args) w)
    (ha : P.length = a) (hm : a + 1 = m) (hb : m + B.length = b) (h2 : m < b) (hN : b ≤ N) (hS : Sl w g Z (P ++ (x :: (B ++ R)))) (hbig : N < 4611686018427387904) (hC : Cm w g kf V G cb) (hVx : V x) (hV : ∀ x ∈ B, V x) (hB : B.Pairwise (PSort.lt kf)) (hup : ∀ y ∈ B, x < y) :
    Calls Try.prog 31 #[.slice (some ⟨g, 0, none⟩) N c, .int .i64 a, .int .i64 m, .int .i64 b, .func (.func G) #[] cb] w fun e w' => e = .returned (.tuple #[]) ∧ ∃ M, M.Perm (x :: B) ∧ M.Pairwise (PSort.lt kf) ∧ Sl w' g Z (P ++ (M ++ R)) ∧ Touch [g] w w' := by
  have HV := Lib.hid (And.intro hV (And.intro hVx (And.intro ha (And.intro hb (And.intro hB (And.intro hup hC))))))
  have S0 := Lib.hid hS
  have hm1 : (m : Int) - (a : Int) = 1 := by omega
  have HM := Lib.hid hm
  have hmb : m ≤ b := by omega
  clear ha hb hV hVx hB hup hC hS hm
  go_enter Try.func31, Try.ntmps31
  go_wp2_with fail
  go_loopw [10, 11] (fun s10 s11 wr => ∃ i j : Nat, s10 = .int .i64 i ∧ s11 = .int .i64 j ∧ m ≤ i ∧ i ≤ j ∧ j ≤ b ∧ Hid (PSort.Cut kf x B (i - m) (j - m)) ∧ Hid (Sl wr g Z (P ++ (x :: (B ++ R)))) ∧ Hid (Touch [g] w wr)) (fun s10 s11 _ => (intOf s11).toNat - (intOf s10).toNat)
  case atStart => exact ⟨m, b, rfl, rfl, by omega, by omega, by omega, Lib.hid (by have := PSort.Cut.start kf x B; rwa [show m - m = 0 by omega, show b - m = B.length by have := HV.out.2.2.2.1; omega]), S0, Lib.hid (Touch.refl _ _)⟩
  case round =>
    obtain ⟨i, j, rfl, rfl, hmi, hij, hjb, TC, SI, hT⟩ := hrel
    by_cases hlt : i < j
    · obtain ⟨h, h0⟩ : ∃ h, h = (i + j) / 2 := ⟨_, rfl⟩
      have hh : ((i : Int) + (j : Int)) / 2 = (h : Int) := by omega
      obtain ⟨hih, hhj⟩ := half_le h0 hlt
      have hlB : B.length = b - m := by have := HV.out.2.2.2.1; omega
      have hbm : (P ++ (x :: (B ++ R))).getD h 0 = B.getD (h - m) 0 := by
        have hP := HV.out.2.2.1
        have := HM.out
        rw [getD_app (by omega), hP, show h - a = (h - m) + 1 by omega]
        show (B ++ R).getD (h - m) 0 = _
        rw [getD_fst (by omega)]
      have hax : (P ++ (x :: (B ++ R))).getD a 0 = x := by
        have hP := HV.out.2.2.1
        rw [getD_app (by omega), hP, Nat.sub_self]; rfl
      have hlen : b ≤ (P ++ (x :: (B ++ R))).length := by
        have hP := HV.out.2.2.1
        have := HM.out
        simp; omega
      have c1 := SI.out.cell (i := h) (by omega)
      have c2 := SI.out.cell (i := a) (by have := HM.out; omega)
      rw [hbm] at c1
      rw [hax] at c2
      have hmem : B.getD (h - m) 0 ∈ B := PSort.getD_mem (by omega)
      have HU := Lib.hid (TC.out.up (h := h - m) HV.out.2.2.2.2.1 (by omega))
      have HD := Lib.hid (TC.out.down (h := h - m) HV.out.2.2.2.2.1 (by omega) (by omega))
      have jz : (h : Int) < (N : Int) := by omega
      have jz1 : (a : Int) < (N : Int) := by have := HM.out; omega
      have HH := Lib.hid h0
      clear h0 hlB hbm hax hlen TC
      generalize B.getD (h - m) 0 = y at c1 hmem HU HD
      by_cases hk : kf y < kf x
      · have hc := fun n => Cm.lo HV.out.2.2.2.2.2.2 hT.out (HV.out.1 y hmem) HV.out.2.1 hk n
        have HU' := Lib.hid (HU.out (PSort.lt_pos hk))
        clear hk hmem HD HU
        go_wp2_with fail
        go_quiet (first | (go_at_fn G; refine Calls.quiet_of (hc _)))
        go_wp2_with fail
        go_roundw
        case rel => exact ⟨h + 1, j, by go_num, rfl, by omega, by omega, by omega, Lib.hid (by have := HU'.out; rwa [show h - m + 1 = h + 1 - m by omega] at this), Lib.hid (SI.out.drewN _), Lib.hid (hT.out.drewN _)⟩
        case measure => simp [intOf]; omega
      · obtain ⟨z, hc⟩ := Cm.hi HV.out.2.2.2.2.2.2 hT.out (HV.out.1 y hmem) HV.out.2.1 hk
        have HD' := Lib.hid (HD.out (PSort.lt_neg (HV.out.2.2.2.2.2.1 y hmem) hk))
        clear hk hmem HD HU
        go_wp2_with fail
        go_quiet (first | (go_at_fn G; refine Calls.quiet_of (hc _)))
        go_wp2_with fail
        go_roundw
        case rel => exact ⟨i, h, rfl, by go_num, by omega, by omega, by omega, HD', Lib.hid (SI.out.drewN _), Lib.hid (hT.out.drewN _)⟩
        case measure => simp [intOf]; omega
    · obtain rfl : i = j := by omega
      have TD := Lib.hid (And.intro (TC.out.done HV.out.2.2.2.2.1) TC.out.2.1)
      clear TC
      go_wp2_with fail
      go_loopw [13] (fun s13 wr => ∃ k : Nat, s13 = .int .i64 k ∧ a ≤ k ∧ k + 1 ≤ i ∧ Hid (Sl wr g Z (P ++ (B.take (k - a) ++ x :: (B.drop (k - a) ++ R)))) ∧ Hid (Touch [g] w wr)) (fun s13 _ => i - (intOf s13).toNat)
      case atStart => exact ⟨a, rfl, by omega, by have := HM.out; omega, Lib.hid (by rw [Nat.sub_self]; simpa using SI.out), hT⟩
      case round =>
        clear SI hT
        obtain ⟨k, rfl, hak, hki, SK, hTK⟩ := hrel
        by_cases hlt : k + 1 < i
        · have hlB : B.length = b - m := by have := HV.out.2.2.2.1; omega
          have hM := HM.out
          obtain ⟨y, hy⟩ : ∃ y, B.drop (k - a) = y :: B.drop (k - a + 1) := ⟨_, List.drop_eq_getElem_cons (by omega)⟩
          have ty : B.take (k + 1 - a) = B.take (k - a) ++ [y] := by
            rw [show k + 1 - a = k - a + 1 by omega, List.take_add, hy]; simp
          have e1 : P ++ (B.take (k - a) ++ x :: (B.drop (k - a) ++ R)) = (P ++ B.take (k - a)) ++ x :: ([] ++ y :: (B.drop (k - a + 1) ++ R)) := by
            rw [hy]; simp
          have e2 : P ++ (B.take (k + 1 - a) ++ x :: (B.drop (k + 1 - a) ++ R)) = (P ++ B.take (k - a)) ++ y :: ([] ++ x :: (B.drop (k - a + 1) ++ R)) := by
            rw [ty, show k + 1 - a = k - a + 1 by omega]; simp
          have SI' := SK.out
          rw [e1] at SI'
          obtain ⟨q, hq⟩ : ∃ q, q = k + 1 := ⟨_, rfl⟩
          obtain ⟨c1, c2, f1, f2, s1, s2⟩ := SI'.two (p := k) (q := q) (by have := HV.out.2.2.1; simp; omega) (by have := HV.out.2.2.1; simp; omega)
          have E2 := Lib.hid e2
          have S1 := Lib.hid (s1 _ SI')
          have HP := Lib.hid hq
          have eq : ((k : Int) + 1).toNat = q := by omega
          have hpq : k ≠ q := by omega
          have jz : (k : Int) + 1 < (N : Int) := by omega
          have jz1 : (k : Int) < (N : Int) := by omega
          have jlt : (k : Int) < (i : Int) - 1 := by omega
          clear e1 e2 ty hy s1 s2 SI' SK hlB hM hq
          go_wp2_with fail
          go_big_region
          all_goals go_wp2_with fail
          go_roundw
          case rel => exact ⟨k + 1, by go_num, by omega, by omega, Lib.hid (by rw [E2.out]; exact S1.out.drew), Lib.hid ((hTK.out.cell (by simp) _ _).cell (by simp) _ _).drew⟩
          case measure => simp [intOf]; omega
        · have jlt : ¬ (k : Int) < (i : Int) - 1 := by omega
          go_wp2_with fail
          (try simp only [Exit.inBlock, Exit.then]); refine bodyPost_ret (results_none rfl _ _ _) rfl ?_
          have hM := HM.out
          have e : k - a = i - m := by omega
          have SK' := SK.out
          rw [e] at SK'
          refine ⟨rfl, B.take (i - m) ++ x :: B.drop (i - m), ?_, TD.out.1, by simpa using SK', hTK.out⟩
          refine List.perm_middle.trans ?_
          rw [List.take_append_drop]
end Go.Proofs.Ytnpdhddnlcpaiaa
